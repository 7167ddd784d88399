import Derived.Shelf.SlGeneric
import Derived.Shelf.SlSortCmp.WholeK
import Derived.Shelf.SlicesG.Cmp
import Derived.Ground.SlsfProg
import Derived.Ground.SlgcProg
import Derived.Test.YthmlndmlnlfhnaaGreatDoorProg
import Derived.Shelf.SlSortCmp.NoneTotal
import Derived.Sort.OwnSorted
import Derived.Test.YthmlndmlnlfhnaaGreatDoorK8116ccd3
import Derived.Test.YthmlndmlnlfhnaaGreatDoorKb97ef3f3
import Derived.Test.YthmlndmlnlfhnaaGreatDoorK88e617fb
import Derived.Test.YthmlndmlnlfhnaaGreatDoorKedf7ebc5
import Derived.Test.YthmlndmlnlfhnaaGreatDoorKc04492b9
set_option maxRecDepth 100000
set_option maxHeartbeats 16000000
namespace Go.Proofs.YthmlndmlnlfhnaaGreatDoor
open Go.Lib (hid)
abbrev ItemD:=DomD ⊕ TabD
def item (b:BookD) (s:ByteArray):Option ItemD :=
 match jdj b.doms s with
 | some d=>some (.inl d)
 | none=>(jb3 b.tabs s).map .inr
def jpa:ItemD→Bs
 | .inl d=>domT d
 | .inr t=>jmd t
def yod:ItemD→Bool
 | .inl d=>jef d
 | .inr t=>jbd t
def okB (b:BookD):Bool:=jda b.doms && jfg b
theorem jd5 {b:BookD}:okB b=true↔(∀ d∈b.doms,jef d=true)∧jdc (·.1) b.doms=true∧(∀ t∈b.tabs,jbd t=true)∧jdc (·.name) b.tabs=true∧∀ t∈b.tabs,∀ d∈b.doms,d.1≠t.name:=by
 unfold okB jda jfg;simp only [Bool.and_eq_true,List.all_eq_true,Option.isNone_iff_eq_none];constructor
 ·rintro ⟨⟨h1,h2⟩,⟨h3,h4⟩,h5⟩;exact ⟨h1,h2,h3,h4,fun t ht d hd=>jof (h5 t ht) hd⟩
 ·rintro ⟨h1,h2,h3,h4,h5⟩;refine ⟨⟨h1,h2⟩,⟨h3,h4⟩,fun t ht=>?_⟩;cases hf:jdj b.doms t.name with
  | none=>rfl
  | some d=>obtain ⟨hd,e⟩:=jgn hf;exact absurd e (h5 t ht d hd)
theorem jnn {b:BookD} (h:(ja6 b).2.2=0):okB b=true:=by
 obtain ⟨_,_,h1,h2,_⟩:=jfx h;unfold okB;rw [h1,h2];rfl
theorem jno:okB jif=true:=by decide
theorem ylb {l:List DomD} (h:(l.map (·.1)).Nodup) {d u:DomD} (hd:d∈l) (hu:u∈l) (e:d.1=u.1):d=u:=by
 induction l with
 | nil=>simp at hd
 | cons a l ih =>
  simp only [List.map_cons,List.nodup_cons] at h;rcases List.mem_cons.1 hd with e1 | hd <;> rcases List.mem_cons.1 hu with e2 | hu
  ·rw [e1,e2]
  ·exact absurd (List.mem_map.2 ⟨u,hu,by rw [← e,e1]⟩) h.1
  ·exact absurd (List.mem_map.2 ⟨d,hd,by rw [e,e2]⟩) h.1
  ·exact ih h.2 hd hu
theorem ykb {l:List DomD} (h:(l.map (·.1)).Nodup) {d:DomD} (hd:d∈l):jdj l d.1=some d:=by
 cases hf:jdj l d.1 with
 | none=>exact absurd rfl (jof hf hd)
 | some u =>
  obtain ⟨h1,h2⟩:=jgn hf;rw [ylb h h1 hd h2]
theorem jk3 {b:BookD} (h:okB b=true) {s:ByteArray} {d:DomD}:item b s=some (.inl d)↔d∈b.doms∧d.1=s:=by
 have hn:=jfo (jd5.1 h).2.1;unfold item;constructor
 ·intro e;cases hf:jdj b.doms s with
  | some u=>rw [hf] at e;injection e with e;injection e with e;subst e;exact jgn hf
  | none=>rw [hf] at e;simp at e
 ·rintro ⟨h1,rfl⟩;rw [ykb hn h1]
theorem jk4 {b:BookD} (h:okB b=true) {s:ByteArray} {t:TabD}:item b s=some (.inr t)↔t∈b.tabs∧t.name=s:=by
 obtain ⟨_,_,_,h4,h5⟩:=jd5.1 h;have hn:(ja3 b.tabs).Nodup:=jfo h4;unfold item;constructor
 ·intro e;cases hf:jdj b.doms s with
  | some u=>rw [hf] at e;simp at e
  | none =>
   rw [hf] at e;simp only [Option.map_eq_some_iff,Sum.inr.injEq] at e;obtain ⟨u,h1,rfl⟩:=e;exact jd8 h1
 ·rintro ⟨h1,rfl⟩;have hf:jdj b.doms t.name=none:=by
   cases hf:jdj b.doms t.name with
   | none=>rfl
   | some d=>obtain ⟨hd,e⟩:=jgn hf;exact absurd e (h5 t h1 d hd)
  rw [hf,jp5 hn h1];rfl
theorem jnl {b:BookD} (h:okB b=true) {s:ByteArray} {i:ItemD} (hi:item b s=some i):yod i=true:=by
 cases i with
 | inl d=>exact (jd5.1 h).1 d ((jk3 h).1 hi).1
 | inr t=>exact (jd5.1 h).2.2.1 t ((jk4 h).1 hi).1
theorem joq {b:BookD} (h:okB b=true) (s:ByteArray):jb2 b s=((item b s).map jpa).getD []:=by
 have hg:=@jnl b h s;unfold jb2 item at *;cases hf:jdj b.doms s with
 | some d =>
  rw [hf] at hg;simp only;have hg':jef d=true:=hg (i:=.inl d) rfl;rw [if_pos hg'];rfl
 | none =>
  rw [hf] at hg;simp only;cases ht:jb3 b.tabs s with
  | none=>rfl
  | some t =>
   rw [ht] at hg;simp only [Option.map_some,Option.getD_some];have hg':jbd t=true:=hg (i:=.inr t) rfl;rw [if_pos hg'];rfl
theorem ybe {i:ItemD} (h:yod i=true):jpa i ≠ []:=by
 cases i with
 | inl d=>simp [jpa,domT,jbx]
 | inr t=>rw [jpa,jzt];simp [jfj]
theorem yhf {i j:ItemD} (hi:yod i=true) (hj:yod j=true) (e:jpa i=jpa j):i=j:=by
 cases i with
 | inl d =>
  cases j with
  | inl u =>
   have h1:=jkn (d:=d) hi;have h2:=jkn (d:=u) hj;simp only [jpa] at e;rw [e,h2] at h1;injection h1 with h1;rw [h1]
  | inr t =>
   have h1:=jkn (d:=d) hi;have h2:=jl5 (t:=t) hj;simp only [jpa] at e;rw [e,h2] at h1;injection h1 with _ h1;injection h1 with _ h1;injection h1 with h1 _;cases h1
 | inr t =>
  cases j with
  | inl d =>
   have h1:=jkn (d:=d) hj;have h2:=jl5 (t:=t) hi;simp only [jpa] at e;rw [← e,h2] at h1;injection h1 with _ h1;injection h1 with _ h1;injection h1 with h1 _;cases h1
  | inr u =>
   have h1:=jl5 (t:=t) hi;have h2:=jl5 (t:=u) hj;simp only [jpa] at e;rw [e,h2] at h1;injection h1 with _ h1;injection h1 with h1 _;rw [h1]
theorem ymt {a b:BookD} (ha:okB a=true) (hb:okB b=true) {s:ByteArray} (h:jb2 a s=jb2 b s):item a s=item b s:=by
 rw [joq ha,joq hb] at h;cases h1:item a s with
 | none =>
  cases h2:item b s with
  | none=>rfl
  | some j=>rw [h1,h2] at h;exact absurd h.symm (ybe (jnl hb h2))
 | some i =>
  cases h2:item b s with
  | none=>rw [h1,h2] at h;exact absurd h (ybe (jnl ha h1))
  | some j=>rw [h1,h2] at h;rw [yhf (jnl ha h1) (jnl hb h2) h]
theorem ye7 {a b:BookD} (ha:okB a=true) (hb:okB b=true) (h:∀ s,item a s=item b s):a=b:=by
 have h1:a.doms=b.doms:=yfz (f:=(·.1)) (jd5.1 ha).2.1 (jd5.1 hb).2.1 fun d=>by
  have x:=jk3 ha (s:=d.1) (d:=d);have y:=jk3 hb (s:=d.1) (d:=d);rw [h] at x;constructor
  ·intro hd;exact (y.1 (x.2 ⟨hd,rfl⟩)).1
  ·intro hd;exact (x.1 (y.2 ⟨hd,rfl⟩)).1
 have h2:a.tabs=b.tabs:=yfz (f:=(·.name)) (jd5.1 ha).2.2.2.1 (jd5.1 hb).2.2.2.1 fun t=>by
  have x:=jk4 ha (s:=t.name) (t:=t);have y:=jk4 hb (s:=t.name) (t:=t);rw [h] at x;constructor
  ·intro hd;exact (y.1 (x.2 ⟨hd,rfl⟩)).1
  ·intro hd;exact (x.1 (y.2 ⟨hd,rfl⟩)).1
 cases a;cases b;simp only at h1 h2;rw [h1,h2]
theorem jyv {a:BookD} (ha:okB a=true) {s:ByteArray} {o:Option ItemD} (hd:∀ d:DomD,(d∈a.doms∧d.1=s)↔o=some (.inl d)) (ht:∀ t:TabD,(t∈a.tabs∧t.name=s)↔o=some (.inr t)):item a s=o:=by
 cases o with
 | none =>
  cases hi:item a s with
  | none=>rfl
  | some i =>
   cases i with
   | inl d=>exact absurd ((hd d).1 ((jk3 ha).1 hi)) (by simp)
   | inr t=>exact absurd ((ht t).1 ((jk4 ha).1 hi)) (by simp)
 | some i =>
  cases i with
  | inl d=>exact (jk3 ha).2 ((hd d).2 rfl)
  | inr t=>exact (jk4 ha).2 ((ht t).2 rfl)
theorem jhr {b:BookD} {s:ByteArray} {d:DomD}:d∈(ja2 b s).doms↔d∈b.doms∧d.1≠s:=by
 unfold ja2;rw [List.mem_filter];simp [jek]
theorem jhs {b:BookD} {s:ByteArray} {t:TabD}:t∈(ja2 b s).tabs↔t∈b.tabs∧t.name≠s:=by
 unfold ja2;rw [List.mem_filter];simp [jek]
theorem jvn {b:BookD} {e d:DomD}:d∈(jgj b e).doms↔d=e∨(d∈b.doms∧d.1≠e.1):=by
 show d∈insF (·.1) (ja2 b e.1).doms e↔_
 rw [jyt,jhr]
theorem jq7 {b:BookD} {e:DomD} {t:TabD}:t∈(jgj b e).tabs↔t∈b.tabs∧t.name≠e.1:=jhs
theorem joz {b:BookD} {e:TabD} {d:DomD}:d∈(jd1 b e).doms↔d∈b.doms∧d.1≠e.name:=jhr
theorem jr9 {b:BookD} {e t:TabD}:t∈(jd1 b e).tabs↔t=e∨(t∈b.tabs∧t.name≠e.name):=by
 show t∈insF (·.name) (ja2 b e.name).tabs e↔_
 rw [jyt,jhs]
theorem jis {b:BookD} (h:okB b=true) (s:ByteArray):okB (ja2 b s)=true:=by
 obtain ⟨h1,h2,h3,h4,h5⟩:=jd5.1 h;refine jd5.2 ⟨fun d hd=>h1 d (jhr.1 hd).1,jm1 h2 _,fun t ht=>h3 t (jhs.1 ht).1,jm1 h4 _,fun t ht d hd=>h5 t (jhs.1 ht).1 d (jhr.1 hd).1⟩
theorem jtc {b:BookD} (h:okB b=true) {e:DomD} (he:jef e=true):okB (jgj b e)=true:=by
 obtain ⟨h1,h2,h3,h4,h5⟩:=jd5.1 h;obtain ⟨_,w2,_,w4,_⟩:=jd5.1 (jis h e.1);refine jd5.2 ⟨fun d hd=>?_,jui w2 (fun d hd=>(jhr.1 hd).2),fun t ht=>h3 t (jq7.1 ht).1,w4,fun t ht d hd=>?_⟩
 ·rcases jvn.1 hd with rfl | hd
  ·exact he
  ·exact h1 d hd.1
 ·rcases jvn.1 hd with rfl | hd
  ·exact fun e=>(jq7.1 ht).2 e.symm
  ·exact h5 t (jq7.1 ht).1 d hd.1
theorem jqe {b:BookD} (h:okB b=true) {e:TabD} (he:jbd e=true):okB (jd1 b e)=true:=by
 obtain ⟨h1,h2,h3,h4,h5⟩:=jd5.1 h;obtain ⟨_,w2,_,w4,_⟩:=jd5.1 (jis h e.name);refine jd5.2 ⟨fun d hd=>h1 d (joz.1 hd).1,w2,fun t ht=>?_,jui w4 (fun t ht=>(jhs.1 ht).2),fun t ht d hd=>?_⟩
 ·rcases jr9.1 ht with rfl | ht
  ·exact he
  ·exact h3 t ht.1
 ·rcases jr9.1 ht with rfl | ht
  ·exact (joz.1 hd).2
  ·exact h5 t ht.1 d (joz.1 hd).1
theorem ybf {b:BookD} (h:okB b=true) (x s:ByteArray):item (ja2 b x) s=if s=x then none else item b s:=by
 refine jyv (jis h x) (fun d=>?_) (fun t=>?_)
 ·rw [jhr];split
  ·rename_i e;subst e
   simp only [reduceCtorEq,iff_false];rintro ⟨⟨_,h2⟩,h3⟩;exact h2 h3
  ·rename_i e
   rw [jk3 h];exact ⟨fun ⟨⟨a,_⟩,c⟩=>⟨a,c⟩,fun ⟨a,c⟩=>⟨⟨a,by rw [c];exact e⟩,c⟩⟩
 ·rw [jhs];split
  ·rename_i e;subst e
   simp only [reduceCtorEq,iff_false];rintro ⟨⟨_,h2⟩,h3⟩;exact h2 h3
  ·rename_i e
   rw [jk4 h];exact ⟨fun ⟨⟨a,_⟩,c⟩=>⟨a,c⟩,fun ⟨a,c⟩=>⟨⟨a,by rw [c];exact e⟩,c⟩⟩
theorem yks {b:BookD} (h:okB b=true) {e:DomD} (he:jef e=true) (s:ByteArray):item (jgj b e) s=if s=e.1 then some (.inl e) else item b s:=by
 refine jyv (jtc h he) (fun d=>?_) (fun t=>?_)
 ·rw [jvn];split
  ·rename_i q;subst q
   simp only [Option.some.injEq,Sum.inl.injEq];constructor
   ·rintro ⟨h1 | h1,h2⟩
    ·exact h1.symm
    ·exact absurd h2 h1.2
   ·rintro rfl;exact ⟨.inl rfl,rfl⟩
  ·rename_i q
   rw [jk3 h];constructor
   ·rintro ⟨h1 | h1,h2⟩
    ·rw [h1] at h2;exact absurd h2.symm q
    ·exact ⟨h1.1,h2⟩
   ·rintro ⟨h1,h2⟩;exact ⟨.inr ⟨h1,by rw [h2];exact q⟩,h2⟩
 ·rw [jq7];split
  ·rename_i q;subst q
   simp only [Option.some.injEq,reduceCtorEq,iff_false];rintro ⟨⟨_,h2⟩,h3⟩;exact h2 h3
  ·rename_i q
   rw [jk4 h];exact ⟨fun ⟨⟨a,_⟩,c⟩=>⟨a,c⟩,fun ⟨a,c⟩=>⟨⟨a,by rw [c];exact q⟩,c⟩⟩
theorem yhg {b:BookD} (h:okB b=true) {e:TabD} (he:jbd e=true) (s:ByteArray):item (jd1 b e) s=if s=e.name then some (.inr e) else item b s:=by
 refine jyv (jqe h he) (fun d=>?_) (fun t=>?_)
 ·rw [joz];split
  ·rename_i q;subst q
   simp only [Option.some.injEq,reduceCtorEq,iff_false];rintro ⟨⟨_,h2⟩,h3⟩;exact h2 h3
  ·rename_i q
   rw [jk3 h];exact ⟨fun ⟨⟨a,_⟩,c⟩=>⟨a,c⟩,fun ⟨a,c⟩=>⟨⟨a,by rw [c];exact q⟩,c⟩⟩
 ·rw [jr9];split
  ·rename_i q;subst q
   simp only [Option.some.injEq,Sum.inr.injEq];constructor
   ·rintro ⟨h1 | h1,h2⟩
    ·exact h1.symm
    ·exact absurd h2 h1.2
   ·rintro rfl;exact ⟨.inl rfl,rfl⟩
  ·rename_i q
   rw [jk4 h];constructor
   ·rintro ⟨h1 | h1,h2⟩
    ·rw [h1] at h2;exact absurd h2.symm q
    ·exact ⟨h1.1,h2⟩
   ·rintro ⟨h1,h2⟩;exact ⟨.inr ⟨h1,by rw [h2];exact q⟩,h2⟩
theorem jsg {g:List ByteArray}:∀ {b:BookD},okB b=true→okB (g.foldl ja2 b)=true∧∀ s,item (g.foldl ja2 b) s=if hasN g s then none else item b s:=by
 induction g with
 | nil=>intro b h;exact ⟨h,fun s=>rfl⟩
 | cons x g ih =>
  intro b h;obtain ⟨h1,h2⟩:=ih (jis h x);refine ⟨h1,fun s=>?_⟩
  show item (g.foldl ja2 (ja2 b x)) s=_
  rw [h2,ybf h];have eh:hasN (x :: g) s=(jap s x || hasN g s):=rfl;rw [eh];by_cases e2:s=x
  ·subst e2;rw [jdk];cases hasN g s <;> simp
  ·rw [jek.2 e2];simp [e2]
theorem jt8 {l:List DomD}:∀ {b:BookD},okB b=true→(∀ d∈l,jef d=true)→(l.map (·.1)).Nodup→okB (l.foldl jgj b)=true∧∀ s,item (l.foldl jgj b) s=match jdj l s with | some d=>some (.inl d) | none=>item b s:=by
 induction l with
 | nil=>intro b h _ _;exact ⟨h,fun s=>rfl⟩
 | cons x l ih =>
  intro b h hg hn;rw [List.map_cons,List.nodup_cons] at hn;obtain ⟨h1,h2⟩:=ih (jtc h (hg x (by simp))) (fun d hd=>hg d (by simp [hd])) hn.2;refine ⟨h1,fun s=>?_⟩
  show item (l.foldl jgj (jgj b x)) s=_
  rw [h2,yks h (hg x (by simp))];have ef:jdj (x :: l) s=if jap x.1 s then some x else jdj l s:=by unfold jdj;rw [List.find?_cons];split <;> simp_all
  rw [ef];by_cases e:s=x.1
  ·subst e;have:jdj l x.1=none:=by
    cases hf:jdj l x.1 with
    | none=>rfl
    | some d=>obtain ⟨hd,e⟩:=jgn hf;exact absurd (List.mem_map.2 ⟨d,hd,e⟩) hn.1
   rw [this,jdk];simp
  ·rw [if_neg e,jek.2 (Ne.symm e)];simp
theorem jw3 {l:List TabD}:∀ {b:BookD},okB b=true→(∀ d∈l,jbd d=true)→(l.map (·.name)).Nodup→okB (l.foldl jd1 b)=true∧∀ s,item (l.foldl jd1 b) s=match jb3 l s with | some d=>some (.inr d) | none=>item b s:=by
 induction l with
 | nil=>intro b h _ _;exact ⟨h,fun s=>rfl⟩
 | cons x l ih =>
  intro b h hg hn;rw [List.map_cons,List.nodup_cons] at hn;obtain ⟨h1,h2⟩:=ih (jqe h (hg x (by simp))) (fun d hd=>hg d (by simp [hd])) hn.2;refine ⟨h1,fun s=>?_⟩
  show item (l.foldl jd1 (jd1 b x)) s=_
  rw [h2,yhg h (hg x (by simp))];have ef:jb3 (x :: l) s=if jap x.name s then some x else jb3 l s:=by unfold jb3;rw [List.find?_cons];split <;> simp_all
  rw [ef];by_cases e:s=x.name
  ·subst e;have:jb3 l x.name=none:=by
    cases hf:jb3 l x.name with
    | none=>rfl
    | some d=>obtain ⟨hd,e⟩:=jd8 hf;exact absurd (List.mem_map.2 ⟨d,hd,e⟩) hn.1
   rw [this,jdk];simp
  ·rw [if_neg e,jek.2 (Ne.symm e)];simp
theorem ji2 {b m:BookD} (hb:okB b=true) (hm:okB m=true) (g:List ByteArray) :
  okB (jf0 b m g)=true∧∀ s,item (jf0 b m g) s=match item m s with | some i=>some i | none=>if hasN g s then none else item b s:=by
 obtain ⟨m1,m2,m3,m4,m5⟩:=jd5.1 hm;obtain ⟨a1,a2⟩:=jsg (g:=g) hb;obtain ⟨b1,b2⟩:=jt8 a1 m1 (jfo m2);obtain ⟨c1,c2⟩:=jw3 b1 m3 (jfo m4);refine ⟨c1,fun s=>?_⟩
 show item (m.tabs.foldl jd1 (m.doms.foldl jgj (g.foldl ja2 b))) s=_
 rw [c2,b2,a2];unfold item;cases ht:jb3 m.tabs s with
 | some t =>
  have hd:jdj m.doms s=none:=by
   cases hd:jdj m.doms s with
   | none=>rfl
   | some d =>
    obtain ⟨h1,h2⟩:=jgn hd;obtain ⟨h3,h4⟩:=jd8 ht;exact absurd (h2.trans h4.symm) (m5 t h3 d h1)
  rw [hd];rfl
 | none =>
  cases hd:jdj m.doms s with
  | some d=>rfl
  | none=>rfl
theorem jx4 {b m:BookD} (hb:okB b=true) (hm:okB m=true) {g g':List ByteArray} (h:∀ s,s∈g↔s∈g'):jf0 b m g=jf0 b m g':=by
 obtain ⟨a1,a2⟩:=ji2 hb hm g;obtain ⟨b1,b2⟩:=ji2 hb hm g';refine ye7 a1 b1 fun s=>?_;rw [a2,b2];cases item m s with
 | some i=>rfl
 | none =>
  simp only;have:hasN g s=hasN g' s:=by
   cases h1:hasN g s <;> cases h2:hasN g' s <;> first | rfl | skip
   ·exact absurd ((h s).2 (jej.1 h2)) (jdt.1 h1)
   ·exact absurd ((h s).1 (jej.1 h1)) (jdt.1 h2)
  rw [this]
theorem jha (b:BookD) (s:ByteArray):(ja2 b s).doms.length≤b.doms.length∧(ja2 b s).tabs.length≤b.tabs.length:=⟨List.length_filter_le ..,List.length_filter_le ..⟩
theorem jzy (b:BookD) (d:DomD):(jgj b d).doms.length≤b.doms.length+1∧(jgj b d).tabs.length≤b.tabs.length:=by
 have:=jha b d.1
 refine ⟨?_,this.2⟩
 show (insF _ _ _).length≤_
 rw [jip];omega
theorem jvm (b:BookD) (t:TabD):(jd1 b t).doms.length≤b.doms.length∧(jd1 b t).tabs.length≤b.tabs.length+1:=by
 have:=jha b t.name
 refine ⟨this.1,?_⟩
 show (insF _ _ _).length≤_
 rw [jip];omega
theorem jjj {g:List ByteArray}:∀ (b:BookD),(g.foldl ja2 b).doms.length≤b.doms.length∧(g.foldl ja2 b).tabs.length≤b.tabs.length:=by
 induction g with
 | nil=>intro b;exact ⟨Nat.le_refl _,Nat.le_refl _⟩
 | cons x g ih=>intro b;have h1:=ih (ja2 b x);have h2:=jha b x;exact ⟨Nat.le_trans h1.1 h2.1,Nat.le_trans h1.2 h2.2⟩
theorem jmj {l:List DomD}:∀ (b:BookD),(l.foldl jgj b).doms.length≤b.doms.length+l.length∧(l.foldl jgj b).tabs.length≤b.tabs.length:=by
 induction l with
 | nil=>intro b;exact ⟨Nat.le_refl _,Nat.le_refl _⟩
 | cons x l ih =>
  intro b;have h1:=ih (jgj b x);have h2:=jzy b x;simp only [List.foldl_cons,List.length_cons];omega
theorem jo9 {l:List TabD}:∀ (b:BookD),(l.foldl jd1 b).doms.length≤b.doms.length∧(l.foldl jd1 b).tabs.length≤b.tabs.length+l.length:=by
 induction l with
 | nil=>intro b;exact ⟨Nat.le_refl _,Nat.le_refl _⟩
 | cons x l ih =>
  intro b;have h1:=ih (jd1 b x);have h2:=jvm b x;simp only [List.foldl_cons,List.length_cons];omega
theorem jtq (b m:BookD) (g:List ByteArray):(jf0 b m g).doms.length≤b.doms.length+m.doms.length∧(jf0 b m g).tabs.length≤b.tabs.length+m.tabs.length:=by
 have h1:=jjj (g:=g) b;have h2:=jmj (l:=m.doms) (g.foldl ja2 b);have h3:=jo9 (l:=m.tabs) (m.doms.foldl jgj (g.foldl ja2 b));unfold jf0;omega
theorem jqd (a b:BookD):(jgw [a,b]).length≤a.doms.length+a.tabs.length+(b.doms.length+b.tabs.length):=by
 have:=@jds ([a,b].flatMap jdp) []
 simp [jdp] at this;unfold jgw;simp [jdp];exact Nat.le_trans this (by omega)
structure SessOk (last acts:Nat) (x:SessD):Prop where
 mine:okB x.mine=true
 gone:jo2 x.gone=true
 read:jo2 x.read=true
 frm:x.frm≤last
 ds:x.mine.doms.length≤acts
 ts:x.mine.tabs.length≤acts
 gs:x.gone.length≤acts
 rs:x.read.length≤1000*acts
structure Inv (σ:StoreD):Prop where
 four:σ.sess.length=4
 some_:σ.later.length≤39
 ok:∀ b ∈ σ.later,(ja6 b).2.2=0
 sess:∀ x ∈ σ.sess,SessOk σ.last σ.acts x
 acts:σ.acts≤200
theorem SessOk.zero (last acts:Nat):SessOk last acts jjn:=⟨jno,rfl,rfl,Nat.zero_le _,Nat.zero_le _,Nat.zero_le _,Nat.zero_le _,Nat.zero_le _⟩
theorem SessOk.up {last acts last' acts':Nat} {x:SessD} (h:SessOk last acts x) (h1:last≤last') (h2:acts≤acts'):SessOk last' acts' x :=
 ⟨h.mine,h.gone,h.read,Nat.le_trans h.frm h1,Nat.le_trans h.ds h2,Nat.le_trans h.ts h2,Nat.le_trans h.gs h2,Nat.le_trans h.rs (Nat.mul_le_mul_left _ h2)⟩
theorem Inv.new:Inv newV:=⟨rfl,Nat.zero_le _,fun b h=>by simp [newV] at h,fun x h=>by
 have:x=jjn:=by simp [newV] at h;exact h
 rw [this];exact SessOk.zero _ _,Nat.zero_le _⟩
theorem yc9:(ja6 jif).2.2=0:=by decide
theorem jn1 {σ:StoreD} (h:Inv σ) {b:BookD} (hb:b ∈ σ.states):(ja6 b).2.2=0:=by
 rcases List.mem_cons.1 hb with rfl | hb
 ·exact yc9
 ·exact h.ok b hb
theorem ynf {σ:StoreD} (n:Nat):σ.ver n ∈ σ.states:=by
 unfold StoreD.ver;cases h:σ.states[n]? with
 | none=>exact List.mem_cons_self
 | some b=>exact List.mem_of_getElem? h
theorem jq4 {σ:StoreD} (h:Inv σ) (n:Nat):okB (σ.ver n)=true:=jnn (jn1 h (ynf n))
theorem jn7 {σ:StoreD} (h:Inv σ) (n:Nat):(σ.ver n).doms.length≤4∧(σ.ver n).tabs.length≤4:=by
 obtain ⟨h1,h2,_⟩:=jfx (jn1 h (ynf n));exact ⟨h1,h2⟩
theorem Inv.at {σ:StoreD} (h:Inv σ) (n:Nat):SessOk σ.last σ.acts (σ.sessN n):=by
 unfold StoreD.sessN;cases hx:σ.sess[n]? with
 | none=>exact SessOk.zero _ _
 | some x=>exact h.sess x (List.mem_of_getElem? hx)
theorem yms {σ:StoreD} (h:Inv σ) {x:SessD} (hx:okB x.mine=true):okB (jfu σ x)=true:=(ji2 (jq4 h _) hx _).1
theorem Inv.tick {σ:StoreD} (h:Inv σ) (ha:σ.acts<200):Inv (jbj σ):=⟨h.four,h.some_,h.ok,fun x hx=>(h.sess x hx).up (Nat.le_refl _) (Nat.le_succ _),ha⟩
theorem Inv.set {σ:StoreD} (h:Inv σ) {n:Nat} {x:SessD} (hx:SessOk σ.last σ.acts x):Inv (jaq σ n x):=by
 refine ⟨by simp [jaq,h.four],h.some_,h.ok,fun y hy=>?_,h.acts⟩;rcases List.mem_or_eq_of_mem_set hy with hy | rfl
 ·exact h.sess y hy
 ·exact hx
theorem ys9 {last acts:Nat} {x:SessD} (h:SessOk last acts x) (s:ByteArray):SessOk last (acts+1) (putV x s).1:=by
 have up:=h.up (Nat.le_refl last) (Nat.le_succ acts);unfold putV;rcases jkm s.data.toList with ⟨d,e,g⟩ | ⟨t,e,g⟩ | ⟨c,e,g⟩
 ·rw [e];have h1:=jzy x.mine d;have h2:=jfn x.gone d.1;have:=h.ds;have:=h.ts;have:=h.gs
  exact ⟨jtc h.mine g,jho _ h.gone,h.read,h.frm,by show (jgj x.mine d).doms.length≤_;omega,by show (jgj x.mine d).tabs.length≤_;omega,by show (jbg x.gone d.1).length≤_;omega,up.rs⟩
 ·rw [e];have h1:=jvm x.mine t;have h2:=jfn x.gone t.name;have:=h.ds;have:=h.ts;have:=h.gs
  exact ⟨jqe h.mine g,jho _ h.gone,h.read,h.frm,by show (jd1 x.mine t).doms.length≤_;omega,by show (jd1 x.mine t).tabs.length≤_;omega,by show (jbg x.gone t.name).length≤_;omega,up.rs⟩
 ·rw [e];simp only [ne_eq,g,not_false_eq_true,if_true];exact up
theorem yrb {last acts:Nat} {x:SessD} (h:SessOk last acts x) (s:ByteArray):SessOk last (acts+1) (jky x s).1:=by
 have up:=h.up (Nat.le_refl last) (Nat.le_succ acts);unfold jky;split
 ·exact up
 ·have h1:=jha x.mine s;have h2:=jfn x.gone s;have:=h.ds;have:=h.ts;have:=h.gs
  exact ⟨jis h.mine s,jho _ h.gone,h.read,h.frm,by show (ja2 x.mine s).doms.length≤_;omega,by show (ja2 x.mine s).tabs.length≤_;omega,by show (jbg x.gone s).length≤_;omega,up.rs⟩
theorem ysr {σ:StoreD} {last acts:Nat} {x:SessD} (h:SessOk last acts x) (s:ByteArray):SessOk last (acts+1) (getV σ x s).1:=by
 have up:=h.up (Nat.le_refl last) (Nat.le_succ acts);unfold getV;split
 ·exact up
 ·have h2:=jfn x.read s;have:=h.rs
  exact ⟨h.mine,h.gone,jho _ h.read,h.frm,up.ds,up.ts,up.gs,by show (jbg x.read s).length≤_;omega⟩
theorem yei {σ:StoreD} (hi:Inv σ) {acts:Nat} (ha:acts≤200) {x:SessD} (h:SessOk σ.last acts x):(jln σ x).length≤x.read.length+420:=by
 have a:=jqd (σ.ver x.frm) (jfu σ x);have b:=jtq (σ.ver x.frm) x.mine x.gone;have c:=jn7 hi x.frm;have d:=@jds (jgw [σ.ver x.frm,jfu σ x]) x.read;have e:=jfn (jay x.read (jgw [σ.ver x.frm,jfu σ x])) noS;have:=h.ds;have:=h.ts
 unfold jln;simp only;change (jgw [σ.ver x.frm,jfu σ x]).length≤_+((jf0 (σ.ver x.frm) x.mine x.gone).doms.length+(jf0 (σ.ver x.frm) x.mine x.gone).tabs.length) at a;split <;> omega
theorem ysl {σ:StoreD} (hi:Inv σ) {acts:Nat} (ha:acts≤200) {x:SessD} (h:SessOk σ.last acts x) (l:List Int):SessOk σ.last (acts+1) (jpi σ x l).1:=by
 have up:=h.up (Nat.le_refl σ.last) (Nat.le_succ acts);have h2:=yei hi ha h;have:=h.rs
 refine ⟨h.mine,h.gone,?_,h.frm,up.ds,up.ts,up.gs,by show (jln σ x).length≤_;omega⟩
 show jo2 (jln σ x)=true
 unfold jln;simp only;split
 ·exact jho _ (jen h.read)
 ·exact jen h.read
theorem jwu {σ:StoreD} (h:Inv σ) (x:SessD):Inv (jer σ x).1:=by
 unfold jer;split
 ·exact h
 ·split
  ·exact h
  ·split
   ·exact h
   ·rename_i h40
    simp only;split
    ·exact h
    ·rename_i hc
     have hc':(ja6 (jf0 (σ.ver σ.last) x.mine x.gone)).2.2=0:=by simpa using hc
     refine ⟨h.four,?_,fun b hb=>?_,fun y hy=>?_,h.acts⟩
     ·simp only [List.length_append,List.length_singleton];unfold StoreD.last at h40;omega
     ·simp only [List.mem_append,List.mem_singleton] at hb;rcases hb with hb | rfl
      ·exact h.ok b hb
      ·exact hc'
     ·exact (h.sess y hy).up (by simp [StoreD.last]) (Nat.le_refl _)
theorem Inv.do_ {σ:StoreD} (h:Inv σ) (a:ActD):Inv (doV σ a).1:=by
 unfold doV;split
 ·exact h
 ·rename_i ha
  have ht:=h.tick (by omega);have hup:∀ n,SessOk σ.last σ.acts (σ.sessN n):=h.at;split
  ·unfold jmt;split
   ·exact ht
   ·split
    ·exact ht
    ·exact ht.set ⟨jno,rfl,rfl,Nat.le_refl _,Nat.zero_le _,Nat.zero_le _,Nat.zero_le _,Nat.zero_le _⟩
  ·split
   ·split
    ·unfold ja8;simp only;have hx:=hup a.n.toNat;have ha200:σ.acts≤200:=h.acts;split
     ·exact ht.set (ys9 hx _)
     ·split
      ·exact ht.set (yrb hx _)
      ·split
       ·exact ht.set (ysr hx _)
       ·split
        ·exact ht.set (ysl (σ:=jbj σ) ht ha200 hx _)
        ·split
         ·exact jwu (ht.set (SessOk.zero _ _)) _
         ·exact ht.set (SessOk.zero _ _)
    ·exact ht
   ·exact ht
end Go.Proofs.YthmlndmlnlfhnaaGreatDoor
namespace Go.Proofs
open Go.Shelf
def Tryz.sortRng_ren:Go.Shelf.Ren:=⟨fun | 6=>213 | 15=>235 | 14=>234 | 28=>255 | 29=>243 | 20=>247 | 21=>248 | 22=>249 | 23=>250 | 24=>251 | 25=>252 | 26=>253 | 27=>254 | 46=>264 | 47=>265 | 48=>266 | 49=>267 | 50=>268 | 57=>270 | n=>n,fun | 22=>83 | 24=>87 | 25=>260 | 3=>3 | 39=>208 | 0=>0 | 53=>296 | 55=>277 | 4=>4 | 46=>300 | 45=>299 | 50=>165 | 5=>5 | 9=>9 | 66=>316 | 70=>320 | 76=>324 | 77=>325 | n=>n,fun | n=>n⟩
theorem Tryz.sortRng:Go.Proofs.SlLaysF0.n6 Tryz.prog Tryz.sortRng_ren:={
 mixed:=by kernel_rfl
 f6:=⟨Tryz.f213.name,by decide,Tryz.func213.trans (congrArg some (by kernel_rfl))⟩
 f14:=⟨Tryz.f234.name,by decide,Tryz.func234.trans (congrArg some (by kernel_rfl))⟩
 f15:=Tryz.func235.trans (congrArg some (by kernel_rfl))
 f20:=⟨Tryz.f247.name,by decide,Tryz.func247.trans (congrArg some (by kernel_rfl))⟩
 f21:=⟨Tryz.f248.name,by decide,Tryz.func248.trans (congrArg some (by kernel_rfl))⟩
 f22:=⟨Tryz.f249.name,by decide,Tryz.func249.trans (congrArg some (by kernel_rfl))⟩
 f23:=⟨Tryz.f250.name,by decide,Tryz.func250.trans (congrArg some (by kernel_rfl))⟩
 f24:=⟨Tryz.f251.name,by decide,Tryz.func251.trans (congrArg some (by kernel_rfl))⟩
 f25:=⟨Tryz.f252.name,by decide,Tryz.func252.trans (congrArg some (by kernel_rfl))⟩
 f26:=⟨Tryz.f253.name,by decide,Tryz.func253.trans (congrArg some (by kernel_rfl))⟩
 f27:=⟨Tryz.f254.name,by decide,Tryz.func254.trans (congrArg some (by kernel_rfl))⟩
 f28:=Tryz.func255.trans (congrArg some (by kernel_rfl))
 f29:=Tryz.func243.trans (congrArg some (by kernel_rfl))
 f46:=⟨Tryz.f264.name,by decide,Tryz.func264.trans (congrArg some (by kernel_rfl))⟩
 f47:=Tryz.func265.trans (congrArg some (by kernel_rfl))
 f48:=Tryz.func266.trans (congrArg some (by kernel_rfl))
 f49:=⟨Tryz.f267.name,by decide,Tryz.func267.trans (congrArg some (by kernel_rfl))⟩
 f50:=⟨Tryz.f268.name,by decide,Tryz.func268.trans (congrArg some (by kernel_rfl))⟩
 f57:=⟨Tryz.f270.name,by decide,Tryz.func270.trans (congrArg some (by kernel_rfl))⟩
 t0:=Tryz.underlying0
 a0:=Tryz.isAgg0
 z0:=Tryz.sizeOf0
 v0:=Tryz.zeroValue0
 t3:=Tryz.underlying3
 a3:=Tryz.isAgg3
 z3:=Tryz.sizeOf3
 v3:=Tryz.zeroValue3
 t4:=Tryz.underlying4
 a4:=Tryz.isAgg4
 z4:=Tryz.sizeOf4
 v4:=Tryz.zeroValue4
 t5:=Tryz.underlying5
 a5:=Tryz.isAgg5
 z5:=Tryz.sizeOf5
 v5:=Tryz.zeroValue5
 t9:=Tryz.underlying9
 a9:=Tryz.isAgg9
 z9:=Tryz.sizeOf9
 v9:=Tryz.zeroValue9
 t22:=Tryz.underlying83
 a22:=Tryz.isAgg83
 z22:=Tryz.sizeOf83
 v22:=Tryz.zeroValue83
 t25:=Tryz.underlying260
 a25:=Tryz.isAgg260
 z25:=Tryz.sizeOf260
 v25:=Tryz.zeroValue260
 t39:=Tryz.underlying208
 a39:=Tryz.isAgg208
 z39:=Tryz.sizeOf208
 v39:=Tryz.zeroValue208
 t45:=Tryz.underlying299
 a45:=Tryz.isAgg299
 z45:=Tryz.sizeOf299
 v45:=Tryz.zeroValue299
 t46:=Tryz.underlying300
 a46:=Tryz.isAgg300
 z46:=Tryz.sizeOf300
 v46:=Tryz.zeroValue300
 t50:=Tryz.underlying165
 a50:=Tryz.isAgg165
 z50:=Tryz.sizeOf165
 v50:=Tryz.zeroValue165
 t53:=Tryz.underlying296
 a53:=Tryz.isAgg296
 z53:=Tryz.sizeOf296
 v53:=Tryz.zeroValue296
 t55:=Tryz.underlying277
 a55:=Tryz.isAgg277
 z55:=Tryz.sizeOf277
 v55:=Tryz.zeroValue277
 t66:=Tryz.underlying316
 a66:=Tryz.isAgg316
 z66:=Tryz.sizeOf316
 v66:=Tryz.zeroValue316
 t70:=Tryz.underlying320
 a70:=Tryz.isAgg320
 z70:=Tryz.sizeOf320
 v70:=Tryz.zeroValue320
 t76:=Tryz.underlying324
 a76:=Tryz.isAgg324
 z76:=Tryz.sizeOf324
 v76:=Tryz.zeroValue324
 t77:=Tryz.underlying325
 a77:=Tryz.isAgg325
 z77:=Tryz.sizeOf325
 v77:=Tryz.zeroValue325 }
def Tryz.cmpInt_ren:Go.Shelf.Ren:=⟨fun | 5=>192 | 7=>211 | n=>n,fun | 22=>3 | 3=>3 | 4=>4 | n=>n,fun | n=>n⟩
theorem Tryz.cmpInt:Go.Proofs.SlLaysC2.n5 Tryz.prog Tryz.cmpInt_ren:={
 mixed:=by kernel_rfl
 f5:=⟨Tryz.f192.name,by decide,Tryz.func192.trans (congrArg some (by kernel_rfl))⟩
 f7:=⟨Tryz.f211.name,by decide,Tryz.func211.trans (congrArg some (by kernel_rfl))⟩
 t3:=Tryz.underlying3
 a3:=Tryz.isAgg3
 z3:=Tryz.sizeOf3
 v3:=Tryz.zeroValue3
 t4:=Tryz.underlying4
 a4:=Tryz.isAgg4
 z4:=Tryz.sizeOf4
 v4:=Tryz.zeroValue4
 t22:=Tryz.underlying3
 a22:=Tryz.isAgg3
 z22:=Tryz.sizeOf3
 v22:=Tryz.zeroValue3 }
end Go.Proofs
namespace Go.Proofs.YthmlndmlnlfhnaaGreatDoor
open Go.Lib (hid)
open Go.RowKit Go.Lib Go.Sort Go.Shelf
def encR (x:Int × Int):List Value:=[.int .i64 x.1,.int .i64 x.2]
theorem ltR (x y:Int × Int):ltOf (fun x y:Int × Int=>Lib.compareInt x.1 y.1) x y=decide (x.1<y.1):=by
 unfold ltOf Lib.compareInt;by_cases h1:x.1<y.1
 ·simp [h1]
 ·by_cases h2:y.1<x.1 <;> simp [h1,h2]
theorem swoR:SWO (ltOf fun x y:Int × Int=>Lib.compareInt x.1 y.1) where
 irrefl x:=by rw [ltR];simp
 trans x y z h1 h2:=by rw [ltR] at *;simp at *;omega
 ntrans x y z h1 h2:=by rw [ltR] at *;simp at *;omega
theorem ybu (x y:Int × Int) (W:World):Calls Tryz.prog 214 #[.agg #[.int .i64 x.1,.int .i64 x.2],.agg #[.int .i64 y.1,.int .i64 y.2]] W fun e w'=>e = .returned (.int .i64 (Lib.compareInt x.1 y.1))∧∃ q os',w'=grow (W.drewN q) os':=by
 have hcon:=fun W'=>AnyG.cmp_Compare_int Tryz.cmpInt x.1 y.1 W';change ∀ W',Calls Tryz.prog 192 _ _ _ at hcon;generalize Lib.compareInt x.1 y.1=r at hcon ⊢;go_enter Tryz.func214,Tryz.ntmps214
 go_wp2_with (go_at_call 192;refine (hcon _).mono ?_;rintro e w' ⟨rfl,rfl⟩)
 go_ret;exact ⟨rfl,0,_,by rw [alloc_eq_grow,alloc_eq_grow,grow_grow];rfl⟩
theorem ybv (blk off size:Nat) (w:World):CmpLays Tryz.prog 214 #[] encR 2 (fun x y=>Lib.compareInt x.1 y.1) blk off size w :=
 fun _ _ _ _ x y=>ybu x y _
theorem jw2 (l:List (Int × Int)):flatK encR 2 l.toArray=(jee l).toArray:=by
 apply Array.ext_getElem?;intro t;by_cases ht:t<l.length*2
 ·have h1:t / 2<l.length:=by omega
  obtain ⟨c0,c1⟩:=jrd l (t / 2) l[t / 2] (List.getElem?_eq_getElem h1);have e1:(flatK encR 2 l.toArray)[t]? = some ((flatK encR 2 l.toArray)[t]!):=by
   rw [getElem!_pos _ t (by simpa using ht),Array.getElem?_eq_getElem]
  rw [e1,get_flatK encR 2 l.toArray t (by simpa using ht),getElem!_pos l.toArray (t / 2) (by simpa using h1)];simp only [List.getElem_toArray,List.getElem?_toArray,encR];rcases Nat.mod_two_eq_zero_or_one t with hm | hm
  ·rw [hm,show (jee l)[t]? = (jee l)[t / 2*2]? from by rw [show t / 2*2=t from by omega],c0];rfl
  ·rw [hm,show (jee l)[t]? = (jee l)[t / 2*2+1]? from by rw [show t / 2*2+1=t from by omega],c1];rfl
 ·rw [Array.getElem?_eq_none (by simp;omega),Array.getElem?_eq_none (by simp [jd3];omega)]
theorem ykk {w:World} {base e g c:Nat} {l:List (Int × Int)} (h:OwnR w base e (.slice (some ⟨g,0,none⟩) l.length c) l):HoldsK encR 2 w g 0 l.toArray:=by
 unfold HoldsK;rw [jw2];intro j hj;have hj':j<l.length*2:=by simpa [jd3] using hj
 refine ⟨?_,by simpa using World.ownsRow.frozenAt h j⟩;have:=World.ownsRow.cellAt h j hj'
 rw [Nat.zero_add,this,getElem!_pos _ j hj];simp [List.getElem?_eq_getElem (show j<(jee l).length from by rw [jd3];exact hj')]
theorem yoi {w:World} {g n:Nat} {os:Array Obj} {cur:Array Value} {e:TypeId} {fr:Nat × Nat} (d:Array Value) (hb:w.heap[g]? = some (.cells cur e fr)) :
  (grow (putRow id (Sort.ahead w n) g 0 d) os).heap[g]? = some (.cells (putCells id 0 d cur) e fr):=by
 have hg:g<w.heap.size:=(Array.getElem?_eq_some_iff.1 hb).1;rw [heap_grow_old _ _ (by simpa using hg)];simp [putRow,mapBlock,Sort.ahead,Array.getElem?_modify,hb,onCells]
theorem ykf {w:World} {g n:Nat} {os:Array Obj} (d:Array Value):w.grownBy (grow (putRow id (Sort.ahead w n) g 0 d) os) (some g):=by
 refine ⟨rfl,rfl,rfl,by simp,fun k hk hne=>?_⟩;rw [heap_grow_old _ _ (by simpa using hk)];have:g≠k:=fun e=>hne (by rw [e])
 simp [putRow,mapBlock,Sort.ahead,Array.getElem?_modify,this]
theorem yp2 (cur:Array Value) (ts:List Value) (h:ts.length≤cur.size):(putCells id 0 ts.toArray cur).toList.take ts.length=ts:=by
 apply List.ext_getElem?;intro j;by_cases hj:j<ts.length
 ·rw [List.getElem?_take_of_lt hj,Array.getElem?_toList];simp [putCells,hj,show j<cur.size by omega]
 ·rw [List.getElem?_take_eq_none (by omega),List.getElem?_eq_none (by omega)]
def ynn (base:Nat) (v:Value) (l:List (Int × Int)) (w:World) (e:Ending) (w':World):Prop :=
 e = .returned (.tuple #[])∧∃ l':List (Int × Int),l'.Perm l∧l'.Pairwise (fun x y=>x.1≤y.1)∧OwnR w' base 87 v l'∧w.grownBy w' v.ownBlock
theorem ymx (base:Nat) (v:Value) (l:List (Int × Int)) (w:World) (h:OwnR w base 87 v l) (hl:l.length*16≤140737488355328) :
  Calls Tryz.prog 213 #[v,.func (.func 214) #[] #[]] w (ynn base v l w):=by
 rcases h.form with ⟨rfl,rfl⟩ | ⟨g,c,rfl,hg1,hg2,hg3,hg4⟩
 ·have hcon:=AnyF.slices_SortFunc_none Tryz.sortRng none 0 (.func (.func 214) #[] #[]) w;change Calls Tryz.prog 213 _ _ _ at hcon;refine hcon.mono ?_;rintro e w' ⟨rfl,rfl⟩;exact ⟨rfl,[],List.Perm.refl _,List.Pairwise.nil,h,World.grownBy.refl _ _⟩
 ·have eg:∀ args w,(callFunc 214 args).run Tryz.prog w = .ok (.enter 214 args) w:=enters_of Tryz.func214 (by kernel_rfl) rfl;have hcon:=AnyQ.slices_SortFunc Tryz.sortRng 2 Tryz.isAgg87 Tryz.sizeOf87 encR (fun _=>rfl) (fun x v hv=>by simp [encR] at hv;rcases hv with rfl | rfl <;> rfl) (fun x y=>Lib.compareInt x.1 y.1) swoR 214 #[] g 0 c l.toArray w eg (ybv g 0 _ w) (ykk h) hg2 (by simp;omega);change Calls Tryz.prog 213 _ _ _ at hcon;refine hcon.mono ?_;rintro e w' ⟨rfl,d',n,os,hp,hs,rfl⟩;obtain ⟨p1,_,p3⟩:=hp;have hlen:d'.toList.length=l.length:=by simpa using p1
  have hperm:d'.toList.Perm l:=by
   have e1:d'.extract 0 l.toArray.size=d':=by rw [← p1];simp
   have e2:l.toArray.extract 0 l.toArray.size=l.toArray:=by simp
   rw [e1,e2] at p3;simpa using p3
  have hsorted:d'.toList.Pairwise (fun x y=>x.1≤y.1):=by
   rw [List.pairwise_iff_getElem];intro i j hi hj hij;have:=hs i j (Nat.zero_le _) hij (by simp at hj;simp;simpa [p1] using hj)
   rw [ltR,getElem!_pos _ i (by simpa using hi),getElem!_pos _ j (by simpa using hj)] at this;simp at this;simpa using this
  refine ⟨rfl,d'.toList,hperm,hsorted,?_,?_⟩
  ·rcases h.2 with ⟨hn,_⟩ | ⟨g',c',cur,hv,hb,hh,h4,h5,h6,_⟩
   ·cases hn
   ·injection hv with e1 e2 e3;injection e1 with e1;injection e1 with e1;subst e1 e3;refine ⟨by rw [jd3],.inr ⟨g,c,putCells id 0 (flatK encR 2 d') cur,by rw [hlen],hb,?_,by rw [hlen];exact h4,h5,?_,?_⟩⟩
    ·unfold sortWorldK putRowK;exact yoi _ hh
    ·simp [putCells,h6]
    ·have e3:flatK encR 2 d'=(jee d'.toList).toArray:=by have:=jw2 d'.toList;simpa using this
     rw [e3,← jd3];exact yp2 cur _ (by rw [jd3,hlen,h6];omega)
  ·unfold sortWorldK putRowK;exact ykf _
open Go.Lib (hid)
open Go.RowKit
theorem OwnR.mono {w:World} {base base' e:Nat} {v:Value} {l:List (Int × Int)} (h:OwnR w base e v l) (hB:base'≤base):OwnR w base' e v l:=by
 refine ⟨h.1,?_⟩;rcases h.2 with h2 | ⟨g,cap,cur,h1,h2,h3⟩
 ·exact .inl h2
 ·exact .inr ⟨g,cap,cur,h1,Nat.le_trans hB h2,h3⟩
theorem OwnR.slOld {w:World} {base e:Nat} {v:Value} {l:List (Int × Int)} (h:OwnR w base e v l):Sl Enc.rng w (Old w) l v:=h.sl.more fun _ hk=>hk.2
theorem jic (l:List (Int × Int)) (v:Value) (w:World) (h:Sl Enc.rng w (Old w) l v) (hl:l.length*16≤140737488355328) :
  Calls Tryz.prog 193 #[v] w (jcn w.heap.size (.slice none 0 0) (jeh l) w):=by
 have H:=hid h;clear h;have hcl:=jsf l;go_enter Tryz.func193,Tryz.ntmps193
 go_wp2_with fail
 refine (yci l v _ H.out hl).mono ?_;rintro e w1 ⟨v1,rfl,ho1,hg1,_⟩;have hb1:Below w.heap.size w w1:=jag hg1 (Nat.le_refl _) (fun _ h=>by cases h);have HO1:=hid ho1;clear ho1 hg1;go_wp2_with fail
 refine (ymx w.heap.size v1 (jkx l) _ HO1.out (by omega)).mono ?_;rintro e w2 ⟨rfl,l',hp,hs,ho2,hg2⟩;have hb2:Below w.heap.size w w2:=hb1.grown hg2 hb1.size (fun _ hr=>(HO1.out.lt _ hr).1);have HO2:=hid ho2;have HE:=hid (yo1 hp hs);have HC:=hid (ygu (fun r hr=>jt2 l r (hp.mem_iff.1 hr)));have hlen:=hp.length_eq;have HLN:=hid hlen;clear hp hs ho2 hg2 hlen;go_wp2_with fail
 refine (yih l' v1 _ HO2.out.slOld (by have:=HLN.out;omega) HC.out).mono ?_;rintro e w3 ⟨v3,rfl,ho3,hg3,_⟩;have hb3:Below w2.heap.size w2 w3:=jag hg3 (Nat.le_refl _) (fun _ h=>by cases h);go_wp2;go_ret;rw [HE.out] at ho3;exact jcn.mk (ho3.mono hb2.size) (jbh hb2 hb2.size hb3)
open Go.Lib (hid)
open Go.RowKit
theorem you {p a b:List (List (Int × Int))} {k:Nat} {s t:List (Int × Int)} (ha:a[k]? = some s) (hb:b[k]? = some t) :
  jjt p (a.drop k) (b.drop k)=(if (jbo s t).length=0 then [] else [p ++ jbo s t :: a.drop (k+1)]) ++ jjt (p ++ [jbq s t]) (a.drop (k+1)) (b.drop (k+1)):=by
 rw [jdi ha,jdi hb,jjt]
theorem jlz {a b:List (List (Int × Int))} (h:b.length=a.length):(jbe a b).length=a.length:=by simp [jbe];omega
theorem jop {b:List (List (Int × Int))} (h:∀ s,s∈b→jbv s=true):∀ s,s∈b→s.length*16≤140737488355328:=fun s hs=>by
 have:=jdn (h s hs);omega
theorem js4 (a b:List (List (Int × Int))) (va vb:Value) (w:World) (ha:Sl Enc.rng.slice w (Old w) a va) (hb:Sl Enc.rng.slice w (Old w) b vb) :
  Calls Tryz.prog 196 #[va,vb] w (jj6 Enc.rng.slice.slice 104 w.heap.size (ja4 a b) w):=by
 have HA:=hid ha;have HB:=hid hb;cases hal:jjo a b
 ·have HL:=hid hal;clear hal ha hb;go_enter Tryz.func196,Tryz.ntmps196
  go_wp2_with fail
  refine (jnf a b _ _ _ HA.out HB.out).mono ?_;rintro e w1 ⟨rfl,hb1⟩;rw [HL.out];go_wp2;go_ret;exact ⟨_,rfl,by unfold ja4;rw [HL.out];exact OwnG.nil,hb1⟩
 ·have HL:=hid hal;obtain ⟨hga,hgb⟩:=jfk.1 hal;have HGA:=hid (jae.1 hga);have HGB:=hid (jae.1 hgb);have lenA:a.length≤3:=by have:=HGA.out;omega
  have lenB:b.length=a.length:=by have:=HGB.out;omega
  have HLB:=hid lenB;clear hal hga hgb lenB;obtain ⟨A,c,rfl,hc1,hc2,-⟩:=ha;obtain ⟨B,d,rfl,hd1,hd2,-⟩:=hb;unfold maxLen at hc2 hd2;cases hfull:jff (jbe a b)
  ·have HF:=hid hfull;clear hfull;go_enter Tryz.func196,Tryz.ntmps196
   go_wp2_with fail
   refine (jnf a b _ _ _ HA.out HB.out).mono ?_;rintro e w1 ⟨rfl,hb1⟩;rw [HL.out];have HA1:=hid (HA.out.onOld hb1);have HB1:=hid (HB.out.onOld hb1);go_wp2_with fail
   refine (jhx a b _ _ _ HA1.out HB1.out).mono ?_;rintro e w2 ⟨v2,rfl,_,hb2⟩;have e1:jcy a b=false:=by simp [jcy,HF.out]
   rw [e1];clear e1;have HA2:=hid (HA1.out.onOld hb2);go_wp2_with fail
   refine (jp0 a _ _ HA2.out (by omega) (jop (jma HGA.out.2))).mono ?_;rintro e w3 ⟨v3,rfl,ho3,hb3⟩;have hn3:=ho3.sl (Nat.le_refl _);obtain ⟨A3,c3,rfl,-,-⟩:=hn3.form;go_wp2;go_ret;have hb4:=bx (bx hb1 hb2) hb3;refine ⟨_,rfl,?_,hb4.alloc hb4.size _⟩;have e2:ja4 a b = [a]:=by unfold ja4;rw [if_pos HL.out,if_neg (by rw [HF.out];simp)]
   rw [e2];refine OwnG.lit w3 [a] #[.slice A3 a.length c3] hb4.size (by unfold maxLen;simp) rfl (jb9.one ⟨_,rfl,?_⟩);exact (hn3.below (fun _ h=>h.2) (jaa w3 _)).more fun k hk=>⟨Nat.le_trans (bx hb1 hb2).size hk.1,hk.2⟩
  ·have HF:=hid hfull;clear hfull;go_enter Tryz.func196,Tryz.ntmps196
   go_wp2_with fail
   refine (jnf a b _ _ _ HA.out HB.out).mono ?_;rintro e w1 ⟨rfl,hb1⟩;rw [HL.out];have HA1:=hid (HA.out.onOld hb1);have HB1:=hid (HB.out.onOld hb1);go_wp2_with fail
   refine (jhx a b _ _ _ HA1.out HB1.out).mono ?_;rintro e w2 ⟨v2,rfl,hn2,hb2⟩;have e1:jcy a b=true:=by simp [jcy,HF.out,HL.out]
   rw [show jdh a b=jbe a b from by unfold jdh;rw [e1];rfl] at hn2;rw [e1];clear e1;have HLI:=hid (jlz HLB.out);have HA2:=hid (HA1.out.onOld hb2);have HB2:=hid (HB1.out.onOld hb2);have HC2:=hid (hn2.more (S':=Old w2) fun _ h=>h.2);have hb02:=bx hb1 hb2;clear hn2 hb1 hb2;obtain ⟨C,cc,rfl,cc1,cc2⟩:=HC2.out.form;have hcc1:a.length≤cc:=by have:=HLI.out;omega
   rw [HLI.out];rw [HLI.out] at HC2;clear cc1;unfold maxLen at cc2;have HI:=hid (jl0 HGA.out.2 HGB.out.2 HF.out);have hsz2:=hb02.size;go_wp2;go_loopw [7,27] (fun u i wr=>∃ (k:Nat) (O:List (List (List (Int × Int)))),k≤a.length∧i = .int .i64 k∧Hid (jjt [] a b=O ++ jjt ((jbe a b).take k) (a.drop k) (b.drop k))∧O.length≤k∧OwnG Enc.rng.slice.slice wr w2.heap.size w2.heap.size 104 u O∧Below w2.heap.size w2 wr) (fun _ i _=>a.length-(intOf i).toNat)
   case atStart=>exact ⟨0,[],Nat.zero_le _,rfl,rfl,Nat.le_refl _,OwnG.nil,Below.refl _ _⟩
   case round =>
    obtain ⟨k,O,hk,rfl,hR,hO,hown,hbl⟩:=hrel;have hsz:=hbl.size;by_cases hlt:k<a.length
    ·have hltb:k<b.length:=by have:=HLB.out;omega
     obtain ⟨ba,oa,s,us,rfl,_,hs,a1,a2⟩:=(HA2.out.below (fun _ h=>h) hbl).sl_at hlt;obtain ⟨bb,ob,t,ut,rfl,_,ht,b1,b2⟩:=(HB2.out.below (fun _ h=>h) hbl).sl_at hltb;have HS:=hid (a2.more (S':=Old wr) fun _ h=>Nat.lt_of_lt_of_le h hsz);have HT:=hid (b2.more (S':=Old wr) fun _ h=>Nat.lt_of_lt_of_le h hsz);have HO:=hid hown;have HRA:=hid (you (p:=(jbe a b).take k) hs.out ht.out);have HTK:=hid (jai (jyu hs.out ht.out));have ls:=jpx (jny HGA.out.2 hs.out);have lt:=jpx (jny HGB.out.2 ht.out);have HAI:=hid (jfl (jny HGB.out.2 ht.out));clear a2 b2 hown;go_wp2_with fail
     go_still_tail 8,(by kernel_rfl)
     go_wp2_with fail
     refine (jks s t _ _ _ (by exact HS.out) (by exact HT.out) (by omega) HAI.out).mono ?_;rintro e w3 ⟨v3,rfl,ho3,hg3,_⟩;have hb3:Below wr.heap.size wr w3:=(Below.refl _ _).drew.grown hg3 (Nat.le_refl _) (fun _ h=>by cases h);have hn3:Sl Enc.rng w3 (From wr.heap.size w3) (jbo s t) v3:=ho3.from_;obtain ⟨A3,c3,rfl,hA1,hA2⟩:=hn3.form;clear hg3 ho3;generalize jbo s t=D at *;by_cases h0:D.length=0
     ·have h0':(D.length:Int)=0:=by omega
      have H0:=hid h0;clear h0;go_wp2;refine ⟨⟨k+1,O,by omega,by go_num,?_,by omega,HO.out.next hb3,bx hbl hb3⟩,by simp [intOf];omega⟩
      show jjt [] a b=_
      rw [hR.out,HRA.out,if_pos H0.out,HTK.out,List.nil_append]
     ·have h0':0<(D.length:Int):=by omega
      have H0:=hid h0;clear h0;have HA3:=hid ((HA2.out.onOld hbl).onOld hb3);have HC3:=hid ((HC2.out.onOld hbl).onOld hb3);have HD3:=hid hn3;have HO3:=hid (HO.out.next hb3);have hbl3:=bx hbl hb3;have hsz3:=hbl3.size;have HF3:=hid (HC3.out.front (j:=k) (by have:=HLI.out;omega));have HB3:=hid (HA3.out.back1 rfl (j:=k+1) (by omega));have hws:=hb3.size;clear hn3 hb3;have w1':IntKind.i64.wrap ((k:Int)+1)=(k:Int)+1:=IntWalk.i64_in _ (by omega);have HS1:=hid (jop (jma (jr4 HI.out k)));have HS2:=hid (jop (jma (yid HGA.out.2 (k+1))));have HLT:Hid (((jbe a b).take k).length=k):=by have:=HLI.out;rw [Hid,List.length_take];omega
      have HLD:Hid ((a.drop (k+1)).length=a.length-(k+1)):=List.length_drop ..;go_wp2_with fail
      have e1:(0:Int)≤k:=by omega
      have e2:(k:Int)≤cc:=by omega
      have e3:(0:Int)≤(k:Int)+1:=by omega
      have e4:(k:Int)+1≤a.length:=by omega
      go_region_law (first
       | (go_simp;go_at_call 219;refine (ynw wr.heap.size ((jbe a b).take k) (a.drop (k+1)) D _ _ _ _ ?_ ?_ ?_ ?_ ?_ HS1.out HS2.out).mono ?_;exact HF3.out;exact HD3.out;exact HB3.out;exact hws;(rw [HLT.out,HLD.out];omega);rintro e w4 ⟨v4,rfl,ho4,hb4⟩;have hn4:=ho4.sl (by exact hws);obtain ⟨A4,c4,rfl,-,-⟩:=hn4.form;generalize hX:(jbe a b).take k ++ D :: a.drop (k+1)=X at *;have HX:=hid hX;clear hX;have hb4':Below w3.heap.size w3 w4:=⟨hb4.os,hb4.tape,hb4.output,hb4.size,hb4.block⟩;have HY:Hid (Enc.rng.slice.slice.rd (w4.alloc (.cells #[.slice A4 X.length c4] 104)) (Off w2.heap.size (w4.alloc (.cells #[.slice A4 X.length c4] 104)) u7) X [.slice A4 X.length c4]):=⟨_,rfl,(hn4.on (jaa _ _)).more (jet HO.out hsz (Nat.le_refl _))⟩;have HO4:=hid ((HO3.out.next hb4').alloc (.cells #[.slice A4 X.length c4] 104));have hb5:=(bx hbl3 hb4').alloc (Nat.le_trans hsz3 hb4'.size) (.cells #[.slice A4 X.length c4] 104);have hs5:w2.heap.size≤(w4.alloc (.cells #[.slice A4 X.length c4] 104)).heap.size:=hb5.size;clear hn4 ho4 hb4 hb4')
       | (refine jgf (E:=Enc.rng.slice.slice) rfl (.tmp 42) (.tmp 52) 195 rfl w2.heap.size w2.heap.size 104 24 (.slice none 0 0) jm6 jys rfl (by decide) u7 O (by simp [Act.eval]) HO4.out ⟨w4.heap.size,0,none⟩ X [.slice A4 X.length c4] (by simp [Act.eval]) HY.out (cell_one_new _ _ _) (by omega) (by unfold maxLen;omega) hs5 ?_;intro v5 w5 ho5 hg5 _;have HO5:=hid ho5;have hb6:=hb5.grown hg5 hs5 (fun _ hr=>(HO.out.lt _ hr).1);clear ho5 hg5))
      all_goals go_wp2
      refine ⟨⟨k+1,O ++ [X],by omega,by go_num,?_,by simp;omega,HO5.out,hb6⟩,by simp [intOf];omega⟩
      show jjt [] a b=_
      rw [hR.out,HRA.out,if_neg H0.out,HTK.out,List.append_assoc]
    ·go_wp2;go_ret;refine ⟨_,rfl,?_,bx hb02 hbl⟩;have e1:ja4 a b=O:=by
      unfold ja4;rw [if_pos HL.out,if_pos HF.out,hR.out,List.drop_of_length_le (by omega)];simp [jjt]
     rw [e1];exact (hown.mono hsz2).monoLo hsz2
open Go.Lib (hid)
open Go.RowKit
theorem yae (l:List (List (List (Int × Int)))) (b:List (List (Int × Int))) (vl vb:Value) (w:World) (hl:Sl Enc.rng.slice.slice w (Old w) l vl) (hb:Sl Enc.rng.slice w (Old w) b vb) (hlen:l.length*3*24≤140737488355328) :
  Calls Tryz.prog 172 #[vl,vb] w (jj6 Enc.rng.slice.slice 104 w.heap.size (jdq l b) w):=by
 have H:=hid hl;have HB:=hid hb;clear hb;obtain ⟨A,c,rfl,hc1,hc2,-⟩:=hl;unfold maxLen at hc2;go_enter Tryz.func172,Tryz.ntmps172
 go_wp2;go_loopw [5,10] (fun u i wr=>∃ k:Nat,k≤l.length∧i = .int .i64 k∧OwnG Enc.rng.slice.slice wr w.heap.size w.heap.size 104 u (jdq (l.take k) b)∧Below w.heap.size w wr) (fun _ i _=>l.length-(intOf i).toNat)
 case atStart=>exact ⟨0,Nat.zero_le _,rfl,OwnG.nil,Below.refl _ _⟩
 case round =>
  obtain ⟨k,hk,rfl,hown,hbl⟩:=hrel;have hsz:=hbl.size;by_cases hlt:k<l.length
  ·obtain ⟨bb,o,a,ua,rfl,_,hx,h1,h2⟩:=(H.out.below (fun _ h=>h) hbl).sl_at hlt;have HS:=hid (h2.more (S':=Old wr) fun _ h=>Nat.lt_of_lt_of_le h hsz);have HB1:=hid (HB.out.onOld hbl);have HO:=hid hown;have HT:=hid (yat hx.out b);have HN:Hid ((jdq (l.take k) b).length≤3*k):=by have:=jo8 (l.take k) b;rw [List.length_take] at this;show _≤_;omega
   have HM:=hid (jpc a b);clear h2 hown;go_wp2_with fail
   refine (js4 a b _ _ _ HS.out HB1.out).mono ?_;rintro e w1 ⟨v1,rfl,ho1,hb1⟩;have hn1:=ho1.sl (Nat.le_refl _);have HO1:=hid (HO.out.next hb1);have HX:=hid hn1;have HF:=hid (fun (y:List (List (Int × Int))) cs (h:Enc.rng.slice.slice.rd w1 (From wr.heap.size w1) y cs)=>Enc.more _ h (jet HO.out hsz (Nat.le_refl w1.heap.size)));have hb2:Below w.heap.size w w1:=bx hbl hb1;have hsz2:=hb2.size;clear hn1 ho1 hb1;go_wp2_with (at_builtin;refine jb6 (E:=Enc.rng.slice.slice) _ rfl _ _ 195 rfl w.heap.size w.heap.size 104 24 (.slice none 0 0) jm6 jys rfl (by decide) _ _ rfl HO1.out _ (ja4 a b) rfl _ HX.out HF.out (by have:=HN.out;have:=HM.out;omega) (by have:=HN.out;have:=HM.out;unfold maxLen;omega) hsz2 ?_;intro v4 w4 ho4 hg4 _)
   refine ⟨⟨k+1,by omega,by go_num,by rw [HT.out];exact ho4,hb2.grown hg4 hsz2 (fun _ hr=>(HO.out.lt _ hr).1)⟩,by simp [intOf];omega⟩
  ·go_wp2;go_ret;have e:l.take k=l:=List.take_of_length_le (by omega);rw [e] at hown;exact ⟨_,rfl,hown,hbl⟩
theorem ye8 (a:List (List (Int × Int))) (l:List (List (List (Int × Int)))) (va vl:Value) (w:World) (ha:Sl Enc.rng.slice w (Old w) a va) (hl:Sl Enc.rng.slice.slice w (Old w) l vl) (hlen:l.length≤20) :
  Calls Tryz.prog 133 #[va,vl] w (jj6 Enc.rng.slice.slice 104 w.heap.size (jpu a l) w):=by
 have HA:=hid ha;have H:=hid hl;obtain ⟨A,c,rfl,hc1,hc2,-⟩:=ha;obtain ⟨B,d,rfl,hd1,hd2,-⟩:=hl;unfold maxLen at hc2 hd2;cases hg:jan a a.length
 ·have HG:=hid hg;clear hg;go_enter Tryz.func133,Tryz.ntmps133
  go_wp2_with fail
  refine (jbt a _ _ _ HA.out).mono ?_;rintro e w1 ⟨rfl,hb1⟩;rw [HG.out];go_wp2;go_ret;exact ⟨_,rfl,by rw [jl9,HG.out];exact OwnG.nil,hb1⟩
 ·have HG:=hid hg;have HGA:=hid (jae.1 hg);have lenA:a.length≤3:=by have:=HGA.out;omega
  clear hg;go_enter Tryz.func133,Tryz.ntmps133
  go_wp2_with fail
  refine (jbt a _ _ _ HA.out).mono ?_;rintro e w1 ⟨rfl,hb1⟩;rw [HG.out];have HA1:=hid (HA.out.onOld hb1);go_wp2_with fail
  refine (jp0 a _ _ HA1.out (by omega) (jop (jma HGA.out.2))).mono ?_;rintro e w2 ⟨v2,rfl,ho2,hb2⟩;have hn2:=ho2.sl (Nat.le_refl _);obtain ⟨A2,c2,rfl,-,-⟩:=hn2.form;have hb02:=bx hb1 hb2;have HL2:=hid (H.out.onOld hb02);have hsz2:=hb02.size;have HO2:Hid (OwnG Enc.rng.slice.slice (w2.alloc (.cells #[.slice A2 a.length c2] 104)) w.heap.size w.heap.size 104 (.slice (some ⟨w2.heap.size,0,none⟩) 1 1) [a]):=by
   refine OwnG.lit w2 [a] #[.slice A2 a.length c2] hsz2 (by unfold maxLen;simp) rfl (jb9.one ⟨_,rfl,?_⟩);exact (hn2.below (fun _ h=>h.2) (jaa w2 _)).more fun k hk=>⟨Nat.le_trans hb1.size hk.1,hk.2⟩
  have hb03:Below w.heap.size w (w2.alloc (.cells #[.slice A2 a.length c2] 104)):=hb02.alloc hsz2 _;clear hn2 ho2 hb2 hb1 hb02;have HAW:=hid (HA.out);go_wp2;go_loopw [5,18] (fun u i wr=>∃ k:Nat,k≤l.length∧i = .int .i64 k∧OwnG Enc.rng.slice.slice wr w.heap.size w.heap.size 104 u (jiw a (l.take k))∧Below w.heap.size w wr) (fun _ i _=>l.length-(intOf i).toNat)
  case atStart=>exact ⟨0,Nat.zero_le _,rfl,HO2.out,hb03⟩
  case round =>
   clear HO2 hb03;obtain ⟨k,hk,rfl,hown,hbl⟩:=hrel;have hsz:=hbl.size;by_cases hlt:k<l.length
   ·obtain ⟨bb,o,b,ub,rfl,_,hx,h1,h2⟩:=(H.out.below (fun _ h=>h) hbl).sl_at hlt;have HS:=hid (h2.more (S':=Old wr) fun _ h=>Nat.lt_of_lt_of_le h hsz);have HO:=hid hown;have HT:=hid (jxv (a:=a) hx.out);have HN:=hid (jqo HG.out l k hk).2.1;clear h2 hown;go_wp2_with fail
    refine (jbt b _ _ _ HS.out).mono ?_;rintro e w3 ⟨rfl,hb3⟩;cases hgb:jan b a.length
    ·have HGB:=hid hgb;clear hgb;go_wp2;refine ⟨⟨k+1,by omega,by go_num,?_,bx hbl hb3⟩,by simp [intOf];omega⟩;rw [HT.out,jqp,HGB.out];exact HO.out.next hb3
    ·have HGB:=hid hgb;have HS3:=hid (HS.out.onOld hb3);have HR3:=hid ((HO.out.next hb3).slOld (Nat.le_refl _));have hb4:=bx hbl hb3;clear hgb hb3;go_wp2_with fail
     refine (yae (jiw a (l.take k)) b _ _ _ HR3.out HS3.out ?_).mono ?_
     ·have h1:=HN.out;have h2:3 ^ k≤3 ^ 20:=Nat.pow_le_pow_right (by omega) (by omega);have h3:3 ^ 20=3486784401:=by decide
      omega
     rintro e w4 ⟨v4,rfl,ho4,hb5⟩;go_wp2;refine ⟨⟨k+1,by omega,by go_num,?_,bx hb4 hb5⟩,by simp [intOf];omega⟩;rw [HT.out,jqp,HGB.out];exact (ho4.mono hb4.size).monoLo hb4.size
   ·go_wp2;go_ret;have e:l.take k=l:=List.take_of_length_le (by omega);rw [e] at hown;exact ⟨_,rfl,by rw [jl9,HG.out];exact hown,hbl⟩
theorem yeb {b:List (List (Int × Int))} {k:Nat} {s:List (Int × Int)} (h:b[k]? = some s):jb7 (b.take (k+1))=jb7 (b.take k) ++ (s.head?.map (·.1)).toList:=by
 rw [jai h];simp only [jb7,List.filterMap_append];cases s <;> rfl
theorem jy9 (b:List (List (Int × Int))):(jb7 b).length≤b.length:=List.length_filterMap_le ..
theorem infoInt':(Tryz.prog.info? 3).map (fun i=>(i.zero,i.size,i.bytes))=some (some (.int .i64 0),1,8):=by kernel_rfl
theorem yiv:Tryz.prog.underlying 22=some (.slice 3):=by kernel_rfl
theorem jka (b:List (List (Int × Int))) (v:Value) (w:World) (h:Sl Enc.rng.slice w (Old w) b v) (hl:b.length*8≤140737488355328) :
  Calls Tryz.prog 168 #[v] w (jj6 Enc.int 3 w.heap.size (jb7 b) w):=by
 have H:=hid h;obtain ⟨A,c,rfl,hc1,hc2,-⟩:=h;unfold maxLen at hc2;go_enter Tryz.func168,Tryz.ntmps168
 go_wp2;go_loopw [3,8] (fun u i wr=>∃ k:Nat,k≤b.length∧i = .int .i64 k∧OwnG Enc.int wr w.heap.size w.heap.size 3 u (jb7 (b.take k))∧Below w.heap.size w wr) (fun _ i _=>b.length-(intOf i).toNat)
 case atStart=>exact ⟨0,Nat.zero_le _,rfl,OwnG.nil,Below.refl _ _⟩
 case round =>
  obtain ⟨k,hk,rfl,hown,hbl⟩:=hrel;have hsz:=hbl.size;by_cases hlt:k<b.length
  ·obtain ⟨bb,o,s,us,rfl,_,hx,h1,h2⟩:=(H.out.below (fun _ h=>h) hbl).sl_at hlt;have HS:=hid h2;have HO:=hid hown;have HT:=hid (yeb hx.out);have HN:Hid ((jb7 (b.take k)).length≤k):=by have:=jy9 (b.take k);rw [List.length_take] at this;show _≤_;omega
   obtain ⟨As,cs,rfl,hs1,hs2,-⟩:=h2;clear hown;by_cases h0:s.length=0
   ·have h0':(s.length:Int)=0:=by omega
    have HE:Hid (s = []):=List.length_eq_zero_iff.1 h0;clear h0;go_wp2;refine ⟨⟨k+1,by omega,by go_num,?_,hbl⟩,by simp [intOf];omega⟩;rw [HT.out,HE.out];simpa using HO.out
   ·have h0':0<(s.length:Int):=by omega
    obtain ⟨b2,o2,x,y,rfl,_,hr,r1,r2⟩:=HS.out.rng_at (k:=0) (by omega);have r1':wr.cell? ⟨b2,o2,none⟩=some (.int .i64 x):=by simpa using r1
    have HE:Hid (s.head?.map (·.1)=some x):=by
     have:=hr.out
     cases s with
     | nil=>simp at this
     | cons r s=>simp at this;simp [this,Hid]
    clear r1 r2 h0;have HO1:=hid (HO.out.alloc (.cells #[.int .i64 x] 3));have HY:Hid (Enc.int.rd (wr.alloc (.cells #[.int .i64 x] 3)) (Off w.heap.size (wr.alloc (.cells #[.int .i64 x] 3)) u3) x [.int .i64 x]):=rfl;have hb2:Below w.heap.size w (wr.alloc (.cells #[.int .i64 x] 3)):=hbl.alloc hsz _;go_wp2_with (at_builtin;refine jaf (E:=Enc.int) _ rfl _ _ 22 rfl w.heap.size w.heap.size 3 8 (.int .i64 0) yiv infoInt' rfl (by decide) _ _ rfl HO1.out ⟨wr.heap.size,0,none⟩ x [.int .i64 x] rfl HY.out (cell_one_new _ _ _) (by have:=HN.out;omega) (by have:=HN.out;unfold maxLen;omega) (by simp;omega) ?_;intro v' w3 hown' hgrow3 _)
    refine ⟨⟨k+1,by omega,by go_num,?_,hb2.grown hgrow3 (by simp;omega) (fun _ hr=>(HO.out.lt _ hr).1)⟩,by simp [intOf];omega⟩;rw [HT.out,HE.out];exact hown'
  ·go_wp2;go_ret;have e:b.take k=b:=List.take_of_length_le (by omega);rw [e] at hown;exact ⟨_,rfl,hown,hbl⟩
end Go.Proofs.YthmlndmlnlfhnaaGreatDoor
