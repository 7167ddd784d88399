import Derived.Shelf.Strings.OnBuilder
import Derived.Deep.RegionHeld3
import Derived.Test.YthmlndmlnlfhnaaGreatDoorK23b39ad3
import Derived.Test.YthmlndmlnlfhnaaGreatDoorK79922686
import Derived.Test.YthmlndmlnlfhnaaGreatDoorKc3058472
set_option maxRecDepth 100000
set_option maxHeartbeats 16000000
namespace Go.Proofs.YthmlndmlnlfhnaaGreatDoor
open Go.RowKit Go.Shelf
def put3 (w:World) (b:Nat) (x y z:Value):World:=((w.setCell ⟨b,0,none⟩ x).setCell ⟨b,1,none⟩ y).setCell ⟨b,2,none⟩ z
theorem Cs.put3 {w:World} {b:Nat} {a1 a2 a3:Value} (h:Cs w b [a1,a2,a3]) (x y z:Value):Cs (put3 w b x y z) b [x,y,z] :=
 ((h.set 0 (by simp) x).set 1 (by simp) y).set 2 (by simp) z
theorem ygi (w:World) (b:Nat) (x y z:Value):Below b w (put3 w b x y z):=((jal ..).trans (jal ..)).trans (jal ..)
theorem ycg (w:World) (b:Nat) (x y z:Value):(put3 w b x y z).heap.size=w.heap.size:=by simp [put3,World.setCell]
theorem jxj (w:World) (b:Nat) (x y z:Value) (k:Nat) (h:k≠b):(put3 w b x y z).heap[k]? = w.heap[k]?:=by
 unfold put3
 rw [RowKit.Below.heap_setCell _ _ _ _ h,RowKit.Below.heap_setCell _ _ _ _ h,RowKit.Below.heap_setCell _ _ _ _ h]
theorem jjc {fn:Func} {p q r s:Tmp} {tmps:Array Value} {W:World} {b c:Nat} {x y z a1 a2 a3 a4 a5:Value} (h:fn.results = #[.cell p 58,.cell q 56,.tmp r,.tmp s]) (hp:tmps.getD p undef = .pointer (some ⟨b,0,none⟩)) (hq:tmps.getD q undef = .pointer (some ⟨c,0,none⟩)) (ht:Cs W b [x,y,z]) (hu:Cs W c [a1,a2,a3,a4,a5]) :
  (results fn tmps).run Tryz.prog W = .ok (.tuple #[.agg #[x,y,z],.agg #[a1,a2,a3,a4,a5],tmps.getD r undef,tmps.getD s undef]) W:=by
 have q0:=ht.at 0 rfl
 have q1:=ht.at 1 rfl
 have q2:=ht.at 2 rfl
 have r0:=hu.at 0 rfl
 have r1:=hu.at 1 rfl
 have r2:=hu.at 2 rfl
 have r3:=hu.at 3 rfl
 have r4:=hu.at 4 rfl
 have hp':tmps[p]?.getD undef = .pointer (some ⟨b,0,none⟩):=by simpa using hp
 have hq':tmps[q]?.getD undef = .pointer (some ⟨c,0,none⟩):=by simpa using hq
 simp [results,h,hp',hq',go_sem,q0,q1,q2,r0,r1,r2,r3,r4]
def yi3 (R:DomD × TabD × Bool × Int) (w:World) (e:Ending) (w':World):Prop :=
 ∃ v,e = .returned (.tuple #[domV R.1,v,.bool R.2.2.1,.int .i64 R.2.2.2])∧ja9 w' (From w.heap.size w') R.2.1 v∧Below w.heap.size w w'
theorem ja9.zero {w:World} {S:Nat→Prop}:ja9 w S je1 (.agg #[.string ⟨#[]⟩,.int .i64 0,.bool false,.slice none 0 0,.slice none 0 0]):=⟨_,_,rfl,Sl.nil,Sl.nil⟩
theorem yly (l:Bs):(2000<l.length→jdz l=(jnc,je1,false,5))∧(¬ 2000<l.length →
  ((jcg ⟨l,false⟩).1=jbx→jni (domP (jcg ⟨l,false⟩).2).2=true→jef (domP (jcg ⟨l,false⟩).2).1=true→jdz l=((domP (jcg ⟨l,false⟩).2).1,je1,false,0)) ∧
  ((jcg ⟨l,false⟩).1=jbx→¬ (jni (domP (jcg ⟨l,false⟩).2).2=true∧jef (domP (jcg ⟨l,false⟩).2).1=true)→jdz l=(jnc,je1,false,1)) ∧
  ((jcg ⟨l,false⟩).1=jfj→jni (tabP (jcg ⟨l,false⟩).2).2=true→jbd (tabP (jcg ⟨l,false⟩).2).1=true→jdz l=(jnc,(tabP (jcg ⟨l,false⟩).2).1,true,0)) ∧
  ((jcg ⟨l,false⟩).1=jfj→¬ (jni (tabP (jcg ⟨l,false⟩).2).2=true∧jbd (tabP (jcg ⟨l,false⟩).2).1=true)→jdz l=(jnc,je1,false,1)) ∧
  ((jcg ⟨l,false⟩).1≠jbx→(jcg ⟨l,false⟩).1≠jfj→jdz l=(jnc,je1,false,1))):=by
 have hne:jbx≠jfj:=by decide
 unfold jdz
 refine ⟨fun h=>if_pos h,fun h=>?_⟩
 rw [if_neg h]
 refine ⟨fun h1 h2 h3=>if_pos ⟨h1,h2,h3⟩,fun h1 h2=>?_,fun h1 h2 h3=>?_,fun h1 h2=>?_,fun h1 h2=>?_⟩
 ·rw [if_neg (fun hh=>h2 hh.2),if_neg (fun hh=>hne (h1.symm.trans hh.1))]
 ·rw [if_neg (fun hh=>hne (hh.1.symm.trans h1)),if_pos ⟨h1,h2,h3⟩]
 ·rw [if_neg (fun hh=>hne (hh.1.symm.trans h1)),if_neg (fun hh=>h2 hh.2)]
 ·rw [if_neg (fun hh=>h1 hh.1),if_neg (fun hh=>h2 hh.1)]
theorem jqw (p:PS):(strP p).1.size≤p.rest.length:=by
 have h:=(List.takeWhile_sublist ja5 (l:=jau p.rest)).length_le
 have h2:=jld p.rest
 show (bs (jcg p).1).size≤_
 rw [jeq]
 exact Nat.le_trans h h2
theorem yf0 {α:Type} {item:PS → α × PS} (hi:∀ p,(item p).2.rest.length≤p.rest.length) {s:Bs} {N:Nat} {Q:α→Prop} (hQ:∀ p,p.rest.length≤N→Q (item p).1):∀ (n:Nat) (p:PS),p.rest.length≤N→∀ x∈(sepP item s n p).1,Q x
 | 0,p,_=>by simp [sepP]
 | n+1,p,hp=>by
  have a:=jec s p
  have b:=hi (jat s p).2
  have ht:(jat s p).2.rest.length≤N:=by omega
  have c:=yf0 hi hQ n (item (jat s p).2).2 (s:=s) (by omega)
  unfold sepP
  split
  ·intro x hx
   rcases List.mem_cons.1 hx with rfl | hx
   ·exact hQ _ ht
   ·exact c x hx
  ·simp
theorem ydw (p:PS) {N:Nat} (hp:p.rest.length≤N):∀ s∈(jio p).1,s.size≤N:=by
 have a:=jle p
 have c:=yf0 (item:=strP) (s:=[44]) (N:=N) (Q:=fun s=>s.size≤N) jle (fun q hq=>Nat.le_trans (jqw q) hq) ((strP p).2.rest.length+1) (strP p).2 (by omega)
 intro s hs
 rcases List.mem_cons.1 (show s∈(strP p).1 :: (sepP strP [44] ((strP p).2.rest.length+1) (strP p).2).1 from hs) with rfl | hs
 ·exact Nat.le_trans (jqw p) hp
 ·exact c s hs
theorem jsn:∀ (n:Nat) (p:PS),(jfi n p).1.length≤jmr p
 | 0,p=>by simp [jfi]
 | n+1,p=>by
  unfold jfi
  split
  ·simp
  ·rename_i hb
   split
   ·simp
   ·rename_i ht
    have a:=jxb p (by simpa using hb) (by simpa using ht)
    have b:=jsn n (jjv (jat [125] p).2).2
    simp only [List.length_cons]
    omega
theorem yio (p:PS) (hp:p.rest.length≤2000):jdm (tabP p).1:=by
 have h1:=jle p
 have h2:=yfv (strP p).2
 have h3:=jmu [99,111,109,112,108,101,116,101] (polP (strP p).2).2
 have h4:=jfp [40] (jcx [99,111,109,112,108,101,116,101] (polP (strP p).2).2).2
 have h5:=jug (jb4 [40] (jcx [99,111,109,112,108,101,116,101] (polP (strP p).2).2).2)
 have h6:=jfp [41] (jio (jb4 [40] (jcx [99,111,109,112,108,101,116,101] (polP (strP p).2).2).2)).2
 have h7:=jfp [123] (jb4 [41] (jio (jb4 [40] (jcx [99,111,109,112,108,101,116,101] (polP (strP p).2).2).2)).2)
 refine ⟨Nat.le_trans (jqw p) (by omega),fun s hs=>?_,?_⟩
 ·have:=ydw (jb4 [40] (jcx [99,111,109,112,108,101,116,101] (polP (strP p).2).2).2) (N:=2000) (by omega) s hs
  omega
 ·have a:=jsn (jmr (jyq p).2+1) (jyq p).2
  have b:jmr (jyq p).2≤(jyq p).2.rest.length+1:=by unfold jmr;split <;> omega
  have c:(jyq p).2.rest.length≤2000:=by
   show (jb4 [123] (jb4 [41] (jio (jb4 [40] (jcx [99,111,109,112,108,101,116,101] (polP (strP p).2).2).2)).2)).rest.length≤2000
   omega
  show (jfi (jmr (jyq p).2+1) (jyq p).2).1.length*32≤_
  omega
theorem ja9.keepS {w w':World} {S:Nat→Prop} {t:TabD} {v:Value} (h:ja9 w S t v) (hk:∀ k,S k→w'.heap[k]? = w.heap[k]?):ja9 w' S t v:=by
 obtain ⟨vi,vr,e,h1,h2⟩:=h
 exact ⟨vi,vr,e,h1.keep fun q hq=>World.cell?_of_block (hk _ hq),h2.keep fun q hq=>World.cell?_of_block (hk _ hq)⟩
theorem ja9.moreS {w:World} {S S':Nat→Prop} {t:TabD} {v:Value} (h:ja9 w S t v) (hS:∀ k,S k→S' k):ja9 w S' t v:=by
 obtain ⟨vi,vr,e,h1,h2⟩:=h
 exact ⟨vi,vr,e,h1.more hS,h2.more hS⟩
theorem ja9.drewF {w:World} {lo:Nat} {t:TabD} {v:Value} (h:ja9 w (From lo w) t v):ja9 w.drew (From lo w.drew) t v:=(h.keepS (w':=w.drew) fun _ _=>rfl).moreS fun _ hk=>hk
def put5 (w:World) (b:Nat) (x y z u v:Value):World:=((((w.setCell ⟨b,0,none⟩ x).setCell ⟨b,1,none⟩ y).setCell ⟨b,2,none⟩ z).setCell ⟨b,3,none⟩ u).setCell ⟨b,4,none⟩ v
theorem jhm (w:World) (b:Nat) (x y z u v:Value) (k:Nat) (h:k≠b):(put5 w b x y z u v).heap[k]? = w.heap[k]?:=by
 unfold put5
 rw [RowKit.Below.heap_setCell _ _ _ _ h,RowKit.Below.heap_setCell _ _ _ _ h,RowKit.Below.heap_setCell _ _ _ _ h,RowKit.Below.heap_setCell _ _ _ _ h,RowKit.Below.heap_setCell _ _ _ _ h]
def jhv (w:World) (b:Nat) (x y z a1 a2 a3 a4 a5:Value):World:=put5 (put3 w b x y z) (b+1) a1 a2 a3 a4 a5
theorem jhn {w W:World} {x y z a1 a2 a3 a4 a5:Value} {d1 d2 d3 e1 e2 e3 e4 e5:Value} (Ca:Cs W w.heap.size [d1,d2,d3]) (Cb:Cs W (w.heap.size+1) [e1,e2,e3,e4,e5]) (Bx:Below w.heap.size w W) :
  Cs (jhv W w.heap.size x y z a1 a2 a3 a4 a5) w.heap.size [x,y,z]∧Cs (jhv W w.heap.size x y z a1 a2 a3 a4 a5) (w.heap.size+1) [a1,a2,a3,a4,a5]∧Below w.heap.size w (jhv W w.heap.size x y z a1 a2 a3 a4 a5)∧(jhv W w.heap.size x y z a1 a2 a3 a4 a5).heap.size=W.heap.size∧∀ k,k≠w.heap.size→k≠w.heap.size+1→(jhv W w.heap.size x y z a1 a2 a3 a4 a5).heap[k]? = W.heap[k]?:=by
 have Cx:=Ca.put3 x y z
 have b3:=ygi W w.heap.size x y z
 have Cb2:=Cb.keep (jxj W w.heap.size x y z (w.heap.size+1) (by omega)) (Nat.le_of_eq (ycg W w.heap.size x y z).symm)
 have b5:=jls (put3 W w.heap.size x y z) (w.heap.size+1) a1 a2 a3 a4 a5
 refine ⟨Cx.below b5 (by omega),Cb2.put5 a1 a2 a3 a4 a5,Bx.trans (b3.trans (b5.mono (by omega))),(jvd ..).trans (ycg ..),fun k h1 h2=>?_⟩
 unfold jhv
 rw [jhm _ _ _ _ _ _ _ _ h2,jxj _ _ _ _ _ _ h1]
theorem jx2 (l:Bs) (w:World) (hv:VarsOk w) (hs:l.length≤140737488355328) :
  Calls Tryz.prog 60 #[.string (bs l)] w (yi3 (jdz l) w):=by
 have hsz:(bs l).size=l.length:=jeq l
 have hwa:=jaa w (.cells #[.string ⟨#[]⟩,.int .i64 0,.int .i64 0] 58)
 have Ca:=Lib.hid (Cs.new w [.string ⟨#[]⟩,.int .i64 0,.int .i64 0] 58)
 have hza:(w.alloc (.cells #[.string ⟨#[]⟩,.int .i64 0,.int .i64 0] 58)).heap.size=w.heap.size+1:=by simp
 have HV:=Lib.hid (hv.next hwa)
 generalize hwe:w.alloc (.cells #[.string ⟨#[]⟩,.int .i64 0,.int .i64 0] 58)=wa at *
 have hwb:=jaa wa (.cells #[.string ⟨#[]⟩,.int .i64 0,.bool false,.slice none 0 0,.slice none 0 0] 56)
 have Cb0:=Lib.hid (Cs.new wa [.string ⟨#[]⟩,.int .i64 0,.bool false,.slice none 0 0,.slice none 0 0] 56)
 have hzb:(wa.alloc (.cells #[.string ⟨#[]⟩,.int .i64 0,.bool false,.slice none 0 0,.slice none 0 0] 56)).heap.size=w.heap.size+2:=by simp;omega
 rw [hza] at Cb0
 have HV0:=Lib.hid (HV.out.next hwb)
 have Ca0:=Lib.hid (Ca.out.next hwb)
 have B0:=Lib.hid (bx hwa hwb)
 generalize hwf:wa.alloc (.cells #[.string ⟨#[]⟩,.int .i64 0,.bool false,.slice none 0 0,.slice none 0 0] 56)=w0 at *
 have AB:=Lib.hid hv.above
 have HE:=yly l
 generalize hR:jdz l=R at *
 clear hR hwa hwb Ca HV
 by_cases hlong:2000<l.length
 ·have HE':=Lib.hid (HE.1 hlong)
  clear HE HV0 AB
  have hl':(2000:Int)<l.length:=by omega
  go_enter Tryz.func60,Tryz.ntmps60
  obtain ⟨Cz,Cy,Bz,zz,kz⟩:=jhn (x:=(.string ⟨#[]⟩)) (y:=(.int .i64 0)) (z:=(.int .i64 0)) (a1:=(.string ⟨#[]⟩)) (a2:=(.int .i64 0)) (a3:=(.bool false)) (a4:=(.slice none 0 0)) (a5:=(.slice none 0 0)) Ca0.out Cb0.out B0.out
  have CZ:=Lib.hid Cz
  have CY:=Lib.hid Cy
  have BZ:=Lib.hid Bz
  have TB:Hid (ja9 (jhv w0 w.heap.size (.string ⟨#[]⟩) (.int .i64 0) (.int .i64 0) (.string ⟨#[]⟩) (.int .i64 0) (.bool false) (.slice none 0 0) (.slice none 0 0)) (From w.heap.size (jhv w0 w.heap.size (.string ⟨#[]⟩) (.int .i64 0) (.int .i64 0) (.string ⟨#[]⟩) (.int .i64 0) (.bool false) (.slice none 0 0) (.slice none 0 0))) je1 (.agg #[.string ⟨#[]⟩,.int .i64 0,.bool false,.slice none 0 0,.slice none 0 0])):=ja9.zero
  clear Cz Cy Bz zz kz
  unfold jhv put5 put3 at CZ CY BZ TB
  obtain ⟨az,ac,af⟩:=Ca0.out
  have ac0:=ac 0 _ rfl
  have af0:=af 0 (by simp)
  have ac1:=ac 1 _ rfl
  have af1:=af 1 (by simp)
  have ac2:=ac 2 _ rfl
  have af2:=af 2 (by simp)
  clear ac af
  obtain ⟨bz,bc,bf⟩:=Cb0.out
  have bc0:=bc 0 _ rfl
  have bf0:=bf 0 (by simp)
  have bc1:=bc 1 _ rfl
  have bf1:=bf 1 (by simp)
  have bc2:=bc 2 _ rfl
  have bf2:=bf 2 (by simp)
  have bc3:=bc 3 _ rfl
  have bf3:=bf 3 (by simp)
  have bc4:=bc 4 _ rfl
  have bf4:=bf 4 (by simp)
  clear bc bf
  go_wp2
  refine bodyPost_ret (jjc (b:=w.heap.size) (c:=w.heap.size+1) rfl rfl rfl CZ.out CY.out) rfl ?_
  rw [HE'.out]
  exact ⟨_,rfl,TB.out,BZ.out⟩
 ·have HE':=Lib.hid (HE.2 hlong)
  clear HE
  have hl':(l.length:Int)≤2000:=by omega
  have hl2:l.length≤2000:=by omega
  have hwg:=jaa w0 (.cells #[.string (bs l),.bool false] 162)
  have hz1:(w0.alloc (.cells #[.string (bs l),.bool false] 162)).heap.size=w.heap.size+3:=by simp;omega
  have P1:=PA.new w0 l 162
  rw [hzb] at P1
  have X1:Hid (PX (w0.alloc (.cells #[.string (bs l),.bool false] 162)) (w.heap.size+2) ⟨l,false⟩):=⟨P1,HV0.out.next hwg,AB.out.mono (by omega)⟩
  have Ca1:=Lib.hid (Ca0.out.next hwg)
  have Cb1:=Lib.hid (Cb0.out.next hwg)
  have B1:=Lib.hid (bx B0.out hwg)
  generalize hwh:w0.alloc (.cells #[.string (bs l),.bool false] 162)=w1 at *
  clear P1 hwg HV0 AB Ca0 Cb0 B0
  go_enter Tryz.func60,Tryz.ntmps60
  go_wp2_with fail
  refine (yfu ⟨l,false⟩ (w.heap.size+2) _ X1.out.1 hl2).mono ?_
  rintro e w2 ⟨rfl,h2,hb2⟩
  have X2:=Lib.hid (X1.out.grown h2 hb2)
  have Ca2:=Lib.hid (Ca1.out.grown hb2 (by omega))
  have Cb2:=Lib.hid (Cb1.out.grown hb2 (by omega))
  have B2:=Lib.hid (B1.out.trans (jag hb2 (by omega) (fun r hr=>by injection hr with hr;omega)))
  have hz2:=hb2.size
  clear hwe hwf hwh
  have L2:=jq8 ⟨l,false⟩
  clear h2 hb2
  generalize hP2:jcg ⟨l,false⟩=P2 at *
  obtain ⟨W,p2⟩:=P2
  simp only at X2 L2 HE'
  by_cases hW:W=jbx
  ·subst hW
   have eW:bs jbx = ⟨#[100,111,109,97,105,110]⟩:=rfl
   rw [eW]
   go_wp2_with fail
   refine (yo8 p2 (w.heap.size+2) _ X2.out (by omega)).mono ?_
   rintro e w3 ⟨rfl,h3,hb3⟩
   have X3:=Lib.hid (X2.out.grown h3 hb3)
   have Ca3:=Lib.hid (Ca2.out.grown hb3 (by omega))
   have Cb3:=Lib.hid (Cb2.out.grown hb3 (by omega))
   have B3:=Lib.hid (B2.out.trans (jag hb3 (by omega) (fun r hr=>by injection hr with hr;omega)))
   have hz3:=hb3.size
   clear h3 hb3
   have L3:=jqw p2
   change (domP p2).1.1.size≤_ at L3
   generalize hP3:domP p2=P3 at *
   obtain ⟨⟨nm,lo,hi⟩,p3⟩:=P3
   simp only at X3 HE' L3
   have hw3a:=jaa w3 (.cells #[.string nm,.int .i64 lo,.int .i64 hi] 58)
   have hz4:(w3.alloc (.cells #[.string nm,.int .i64 lo,.int .i64 hi] 58)).heap.size=w3.heap.size+1:=by simp
   have X4:=Lib.hid (X3.out.next hw3a)
   have Ca4:=Lib.hid (Ca3.out.next hw3a)
   have Cb4:=Lib.hid (Cb3.out.next hw3a)
   have B4:=Lib.hid (B3.out.trans (hw3a.mono (by omega)))
   have D4:=Lib.hid (Cs.new w3 [.string nm,.int .i64 lo,.int .i64 hi] 58)
   go_wp2_with fail
   generalize w3.alloc (.cells #[.string nm,.int .i64 lo,.int .i64 hi] 58)=w4 at *
   go_wp2_with fail
   refine (ylw p3 (w.heap.size+2) _ X4.out.1).mono ?_
   rintro e w5 ⟨rfl,h5,hb5⟩
   have X5:=Lib.hid (X4.out.grown h5 hb5)
   have Ca5:=Lib.hid (Ca4.out.grown hb5 (by omega))
   have Cb5:=Lib.hid (Cb4.out.grown hb5 (by omega))
   have B5:=Lib.hid (B4.out.trans (jag hb5 (by omega) (fun r hr=>by injection hr with hr;omega)))
   have hz5:=hb5.size
   have D5:=Lib.hid (D4.out.grown hb5 (by omega))
   clear h5 hb5
   cases hE:jni p3
   ·have HN:=Lib.hid (HE'.out.2.1 (by first | trivial | rfl) (by rw [hE];simp))
    clear HE' hE
    obtain ⟨Cz,Cy,Bz,zz,kz⟩:=jhn (x:=(.string ⟨#[]⟩)) (y:=(.int .i64 0)) (z:=(.int .i64 0)) (a1:=(.string ⟨#[]⟩)) (a2:=(.int .i64 0)) (a3:=(.bool false)) (a4:=(.slice none 0 0)) (a5:=(.slice none 0 0)) Ca5.out Cb5.out B5.out
    have CZ:=Lib.hid Cz
    have CY:=Lib.hid Cy
    have BZ:=Lib.hid Bz
    have TB:Hid (ja9 (jhv w5 w.heap.size (.string ⟨#[]⟩) (.int .i64 0) (.int .i64 0) (.string ⟨#[]⟩) (.int .i64 0) (.bool false) (.slice none 0 0) (.slice none 0 0)) (From w.heap.size (jhv w5 w.heap.size (.string ⟨#[]⟩) (.int .i64 0) (.int .i64 0) (.string ⟨#[]⟩) (.int .i64 0) (.bool false) (.slice none 0 0) (.slice none 0 0))) je1 (.agg #[.string ⟨#[]⟩,.int .i64 0,.bool false,.slice none 0 0,.slice none 0 0])):=ja9.zero
    clear Cz Cy Bz zz kz
    unfold jhv put5 put3 at CZ CY BZ TB
    obtain ⟨az,ac,af⟩:=Ca5.out
    have ac0:=ac 0 _ rfl
    have af0:=af 0 (by simp)
    have ac1:=ac 1 _ rfl
    have af1:=af 1 (by simp)
    have ac2:=ac 2 _ rfl
    have af2:=af 2 (by simp)
    clear ac af
    obtain ⟨bz,bc,bf⟩:=Cb5.out
    have bc0:=bc 0 _ rfl
    have bf0:=bf 0 (by simp)
    have bc1:=bc 1 _ rfl
    have bf1:=bf 1 (by simp)
    have bc2:=bc 2 _ rfl
    have bf2:=bf 2 (by simp)
    have bc3:=bc 3 _ rfl
    have bf3:=bf 3 (by simp)
    have bc4:=bc 4 _ rfl
    have bf4:=bf 4 (by simp)
    clear bc bf
    go_wp2
    refine bodyPost_ret (jjc (b:=w.heap.size) (c:=w.heap.size+1) rfl rfl rfl CZ.out CY.out) rfl ?_
    rw [HN.out]
    exact ⟨_,rfl,TB.out,BZ.out⟩
   ·have e0:=D5.out.at 0 rfl
    have e1:=D5.out.at 1 rfl
    have e2:=D5.out.at 2 rfl
    go_wp2_with fail
    refine (jid nm lo hi _ (by omega)).mono ?_
    rintro e w6 ⟨rfl,hb6⟩
    have Ca6:=Lib.hid (Ca5.out.next hb6)
    have Cb6:=Lib.hid (Cb5.out.next hb6)
    have D6:=Lib.hid (D5.out.next hb6)
    have B6:=Lib.hid (B5.out.trans (hb6.mono (by omega)))
    clear e0 e1 e2 hb6
    cases hG:jef (nm,lo,hi)
    ·have HN:=Lib.hid (HE'.out.2.1 (by first | trivial | rfl) (by rw [hE,hG];simp))
     clear HE' hE hG
     obtain ⟨Cz,Cy,Bz,zz,kz⟩:=jhn (x:=(.string ⟨#[]⟩)) (y:=(.int .i64 0)) (z:=(.int .i64 0)) (a1:=(.string ⟨#[]⟩)) (a2:=(.int .i64 0)) (a3:=(.bool false)) (a4:=(.slice none 0 0)) (a5:=(.slice none 0 0)) Ca6.out Cb6.out B6.out
     have CZ:=Lib.hid Cz
     have CY:=Lib.hid Cy
     have BZ:=Lib.hid Bz
     have TB:Hid (ja9 (jhv w6 w.heap.size (.string ⟨#[]⟩) (.int .i64 0) (.int .i64 0) (.string ⟨#[]⟩) (.int .i64 0) (.bool false) (.slice none 0 0) (.slice none 0 0)) (From w.heap.size (jhv w6 w.heap.size (.string ⟨#[]⟩) (.int .i64 0) (.int .i64 0) (.string ⟨#[]⟩) (.int .i64 0) (.bool false) (.slice none 0 0) (.slice none 0 0))) je1 (.agg #[.string ⟨#[]⟩,.int .i64 0,.bool false,.slice none 0 0,.slice none 0 0])):=ja9.zero
     clear Cz Cy Bz zz kz
     unfold jhv put5 put3 at CZ CY BZ TB
     obtain ⟨az,ac,af⟩:=Ca6.out
     have ac0:=ac 0 _ rfl
     have af0:=af 0 (by simp)
     have ac1:=ac 1 _ rfl
     have af1:=af 1 (by simp)
     have ac2:=ac 2 _ rfl
     have af2:=af 2 (by simp)
     clear ac af
     obtain ⟨bz,bc,bf⟩:=Cb6.out
     have bc0:=bc 0 _ rfl
     have bf0:=bf 0 (by simp)
     have bc1:=bc 1 _ rfl
     have bf1:=bf 1 (by simp)
     have bc2:=bc 2 _ rfl
     have bf2:=bf 2 (by simp)
     have bc3:=bc 3 _ rfl
     have bf3:=bf 3 (by simp)
     have bc4:=bc 4 _ rfl
     have bf4:=bf 4 (by simp)
     clear bc bf
     go_wp2
     refine bodyPost_ret (jjc (b:=w.heap.size) (c:=w.heap.size+1) rfl rfl rfl CZ.out CY.out) rfl ?_
     rw [HN.out]
     exact ⟨_,rfl,TB.out,BZ.out⟩
    ·have HN:=Lib.hid (HE'.out.1 (by first | trivial | rfl) hE hG)
     clear HE' hE hG
     have e0:=D6.out.at 0 rfl
     have e1:=D6.out.at 1 rfl
     have e2:=D6.out.at 2 rfl
     obtain ⟨Cz,Cy,Bz,zz,kz⟩:=jhn (x:=(.string nm)) (y:=(.int .i64 lo)) (z:=(.int .i64 hi)) (a1:=(.string ⟨#[]⟩)) (a2:=(.int .i64 0)) (a3:=(.bool false)) (a4:=(.slice none 0 0)) (a5:=(.slice none 0 0)) Ca6.out Cb6.out B6.out
     have CZ:=Lib.hid Cz
     have CY:=Lib.hid Cy
     have BZ:=Lib.hid Bz
     have TB:Hid (ja9 (jhv w6 w.heap.size (.string nm) (.int .i64 lo) (.int .i64 hi) (.string ⟨#[]⟩) (.int .i64 0) (.bool false) (.slice none 0 0) (.slice none 0 0)) (From w.heap.size (jhv w6 w.heap.size (.string nm) (.int .i64 lo) (.int .i64 hi) (.string ⟨#[]⟩) (.int .i64 0) (.bool false) (.slice none 0 0) (.slice none 0 0))) je1 (.agg #[.string ⟨#[]⟩,.int .i64 0,.bool false,.slice none 0 0,.slice none 0 0])):=ja9.zero
     clear Cz Cy Bz zz kz
     unfold jhv put5 put3 at CZ CY BZ TB
     obtain ⟨az,ac,af⟩:=Ca6.out
     have ac0:=ac 0 _ rfl
     have af0:=af 0 (by simp)
     have ac1:=ac 1 _ rfl
     have af1:=af 1 (by simp)
     have ac2:=ac 2 _ rfl
     have af2:=af 2 (by simp)
     clear ac af
     obtain ⟨bz,bc,bf⟩:=Cb6.out
     have bc0:=bc 0 _ rfl
     have bf0:=bf 0 (by simp)
     have bc1:=bc 1 _ rfl
     have bf1:=bf 1 (by simp)
     have bc2:=bc 2 _ rfl
     have bf2:=bf 2 (by simp)
     have bc3:=bc 3 _ rfl
     have bf3:=bf 3 (by simp)
     have bc4:=bc 4 _ rfl
     have bf4:=bf 4 (by simp)
     clear bc bf
     go_wp2
     refine bodyPost_ret (jjc (b:=w.heap.size) (c:=w.heap.size+1) rfl rfl rfl CZ.out CY.out) rfl ?_
     rw [HN.out]
     exact ⟨_,rfl,TB.out,BZ.out⟩
  ·by_cases hT:W=jfj
   ·subst hT
    have eW:bs jfj = ⟨#[116,97,98,108,101]⟩:=rfl
    rw [eW]
    go_wp2_with fail
    refine (yrt p2 (w.heap.size+2) _ X2.out (by omega)).mono ?_
    rintro e w3 ⟨v3,rfl,ht3,h3,hb3⟩
    have X3:=Lib.hid (X2.out.grown h3 hb3)
    have Ca3:=Lib.hid (Ca2.out.grown hb3 (by omega))
    have Cb3:=Lib.hid (Cb2.out.grown hb3 (by omega))
    have B3:=Lib.hid (B2.out.trans (jag hb3 (by omega) (fun r hr=>by injection hr with hr;omega)))
    have hz3:=hb3.size
    clear h3 hb3
    have L3:=yio p2 (by omega)
    generalize hP3:tabP p2=P3 at *
    obtain ⟨t,p3⟩:=P3
    simp only at X3 HE' L3 ht3
    have T3:=Lib.hid ht3
    obtain ⟨nm,pol,comp,ins,rules⟩:=t
    obtain ⟨vi,vr,rfl,hi3,hr3⟩:=ht3
    simp only at hi3 hr3
    obtain ⟨Ai,ci,rfl,-,-⟩:=hi3.form
    obtain ⟨Ar,cr,rfl,-,-⟩:=hr3.form
    clear hi3 hr3
    have L3':=Lib.hid L3
    clear L3
    have hw3a:=jaa w3 (.cells #[.string nm,.int .i64 pol,.bool comp,.slice Ai ins.length ci,.slice Ar rules.length cr] 56)
    have hz4:(w3.alloc (.cells #[.string nm,.int .i64 pol,.bool comp,.slice Ai ins.length ci,.slice Ar rules.length cr] 56)).heap.size=w3.heap.size+1:=by simp
    have X4:=Lib.hid (X3.out.next hw3a)
    have Ca4:=Lib.hid (Ca3.out.next hw3a)
    have Cb4:=Lib.hid (Cb3.out.next hw3a)
    have B4:=Lib.hid (B3.out.trans (hw3a.mono (by omega)))
    have D4:=Lib.hid (Cs.new w3 [.string nm,.int .i64 pol,.bool comp,.slice Ai ins.length ci,.slice Ar rules.length cr] 56)
    have T4:=Lib.hid (T3.out.keepS (w':=w3.alloc (.cells #[.string nm,.int .i64 pol,.bool comp,.slice Ai ins.length ci,.slice Ar rules.length cr] 56)) (fun k hk=>hw3a.block k hk.2))
    go_wp2_with fail
    generalize w3.alloc (.cells #[.string nm,.int .i64 pol,.bool comp,.slice Ai ins.length ci,.slice Ar rules.length cr] 56)=w4 at *
    go_wp2_with fail
    refine (ylw p3 (w.heap.size+2) _ X4.out.1).mono ?_
    rintro e w5 ⟨rfl,h5,hb5⟩
    have X5:=Lib.hid (X4.out.grown h5 hb5)
    have Ca5:=Lib.hid (Ca4.out.grown hb5 (by omega))
    have Cb5:=Lib.hid (Cb4.out.grown hb5 (by omega))
    have B5:=Lib.hid (B4.out.trans (jag hb5 (by omega) (fun r hr=>by injection hr with hr;omega)))
    have hz5:=hb5.size
    have D5:=Lib.hid (D4.out.grown hb5 (by omega))
    have T5:=Lib.hid (T4.out.keepS (w':=w5) (fun k hk=>hb5.block k (by have:=hk.2;omega) (by intro e;injection e with e;have:=hk.1;omega)))
    clear h5 hb5
    cases hE:jni p3
    ·have HN:=Lib.hid (HE'.out.2.2.2.1 (by first | trivial | rfl) (by rw [hE];simp))
     clear HE' hE
     obtain ⟨Cz,Cy,Bz,zz,kz⟩:=jhn (x:=(.string ⟨#[]⟩)) (y:=(.int .i64 0)) (z:=(.int .i64 0)) (a1:=(.string ⟨#[]⟩)) (a2:=(.int .i64 0)) (a3:=(.bool false)) (a4:=(.slice none 0 0)) (a5:=(.slice none 0 0)) Ca5.out Cb5.out B5.out
     have CZ:=Lib.hid Cz
     have CY:=Lib.hid Cy
     have BZ:=Lib.hid Bz
     have TB:Hid (ja9 (jhv w5 w.heap.size (.string ⟨#[]⟩) (.int .i64 0) (.int .i64 0) (.string ⟨#[]⟩) (.int .i64 0) (.bool false) (.slice none 0 0) (.slice none 0 0)) (From w.heap.size (jhv w5 w.heap.size (.string ⟨#[]⟩) (.int .i64 0) (.int .i64 0) (.string ⟨#[]⟩) (.int .i64 0) (.bool false) (.slice none 0 0) (.slice none 0 0))) je1 (.agg #[.string ⟨#[]⟩,.int .i64 0,.bool false,.slice none 0 0,.slice none 0 0])):=ja9.zero
     clear Cz Cy Bz zz kz
     unfold jhv put5 put3 at CZ CY BZ TB
     obtain ⟨az,ac,af⟩:=Ca5.out
     have ac0:=ac 0 _ rfl
     have af0:=af 0 (by simp)
     have ac1:=ac 1 _ rfl
     have af1:=af 1 (by simp)
     have ac2:=ac 2 _ rfl
     have af2:=af 2 (by simp)
     clear ac af
     obtain ⟨bz,bc,bf⟩:=Cb5.out
     have bc0:=bc 0 _ rfl
     have bf0:=bf 0 (by simp)
     have bc1:=bc 1 _ rfl
     have bf1:=bf 1 (by simp)
     have bc2:=bc 2 _ rfl
     have bf2:=bf 2 (by simp)
     have bc3:=bc 3 _ rfl
     have bf3:=bf 3 (by simp)
     have bc4:=bc 4 _ rfl
     have bf4:=bf 4 (by simp)
     clear bc bf
     go_wp2
     refine bodyPost_ret (jjc (b:=w.heap.size) (c:=w.heap.size+1) rfl rfl rfl CZ.out CY.out) rfl ?_
     rw [HN.out]
     exact ⟨_,rfl,TB.out,BZ.out⟩
    ·have e0:=D5.out.at 0 rfl
     have e1:=D5.out.at 1 rfl
     have e2:=D5.out.at 2 rfl
     have e3:=D5.out.at 3 rfl
     have e4:=D5.out.at 4 rfl
     go_wp2_with fail
     refine (jeb ⟨nm,pol,comp,ins,rules⟩ _ _ (T5.out.moreS (fun k hk=>by have:=hk.2;show k<w5.heap.size;omega)) L3'.out).mono ?_
     rintro e w6 ⟨rfl,hb6⟩
     have Ca6:=Lib.hid (Ca5.out.next hb6)
     have Cb6:=Lib.hid (Cb5.out.next hb6)
     have D6:=Lib.hid (D5.out.next hb6)
     have B6:=Lib.hid (B5.out.trans (hb6.mono (by omega)))
     have T6:=Lib.hid (T5.out.keepS (w':=w6) (fun k hk=>hb6.block k (by have:=hk.2;omega)))
     have hz6:=hb6.size
     clear e0 e1 e2 e3 e4 hb6
     cases hG:jbd ⟨nm,pol,comp,ins,rules⟩
     ·have HN:=Lib.hid (HE'.out.2.2.2.1 (by first | trivial | rfl) (by rw [hE,hG];simp))
      clear HE' hE hG
      obtain ⟨Cz,Cy,Bz,zz,kz⟩:=jhn (x:=(.string ⟨#[]⟩)) (y:=(.int .i64 0)) (z:=(.int .i64 0)) (a1:=(.string ⟨#[]⟩)) (a2:=(.int .i64 0)) (a3:=(.bool false)) (a4:=(.slice none 0 0)) (a5:=(.slice none 0 0)) Ca6.out Cb6.out B6.out
      have CZ:=Lib.hid Cz
      have CY:=Lib.hid Cy
      have BZ:=Lib.hid Bz
      have TB:Hid (ja9 (jhv w6 w.heap.size (.string ⟨#[]⟩) (.int .i64 0) (.int .i64 0) (.string ⟨#[]⟩) (.int .i64 0) (.bool false) (.slice none 0 0) (.slice none 0 0)) (From w.heap.size (jhv w6 w.heap.size (.string ⟨#[]⟩) (.int .i64 0) (.int .i64 0) (.string ⟨#[]⟩) (.int .i64 0) (.bool false) (.slice none 0 0) (.slice none 0 0))) je1 (.agg #[.string ⟨#[]⟩,.int .i64 0,.bool false,.slice none 0 0,.slice none 0 0])):=ja9.zero
      clear Cz Cy Bz zz kz
      unfold jhv put5 put3 at CZ CY BZ TB
      obtain ⟨az,ac,af⟩:=Ca6.out
      have ac0:=ac 0 _ rfl
      have af0:=af 0 (by simp)
      have ac1:=ac 1 _ rfl
      have af1:=af 1 (by simp)
      have ac2:=ac 2 _ rfl
      have af2:=af 2 (by simp)
      clear ac af
      obtain ⟨bz,bc,bf⟩:=Cb6.out
      have bc0:=bc 0 _ rfl
      have bf0:=bf 0 (by simp)
      have bc1:=bc 1 _ rfl
      have bf1:=bf 1 (by simp)
      have bc2:=bc 2 _ rfl
      have bf2:=bf 2 (by simp)
      have bc3:=bc 3 _ rfl
      have bf3:=bf 3 (by simp)
      have bc4:=bc 4 _ rfl
      have bf4:=bf 4 (by simp)
      clear bc bf
      go_wp2
      refine bodyPost_ret (jjc (b:=w.heap.size) (c:=w.heap.size+1) rfl rfl rfl CZ.out CY.out) rfl ?_
      rw [HN.out]
      exact ⟨_,rfl,TB.out,BZ.out⟩
     ·have HN:=Lib.hid (HE'.out.2.2.1 (by first | trivial | rfl) hE hG)
      clear HE' hE hG
      have e0:=D6.out.at 0 rfl
      have e1:=D6.out.at 1 rfl
      have e2:=D6.out.at 2 rfl
      have e3:=D6.out.at 3 rfl
      have e4:=D6.out.at 4 rfl
      have hne0:w3.heap.size≠w.heap.size:=by omega
      have hne1:w3.heap.size≠w.heap.size+1:=by omega
      obtain ⟨Cz,Cy,Bz,zz,kz⟩:=jhn (x:=(.string ⟨#[]⟩)) (y:=(.int .i64 0)) (z:=(.int .i64 0)) (a1:=(.string nm)) (a2:=(.int .i64 pol)) (a3:=(.bool comp)) (a4:=(.slice Ai ins.length ci)) (a5:=(.slice Ar rules.length cr)) Ca6.out Cb6.out B6.out
      have CZ:=Lib.hid Cz
      have CY:=Lib.hid Cy
      have BZ:=Lib.hid Bz
      have TB:Hid (ja9 (jhv w6 w.heap.size (.string ⟨#[]⟩) (.int .i64 0) (.int .i64 0) (.string nm) (.int .i64 pol) (.bool comp) (.slice Ai ins.length ci) (.slice Ar rules.length cr)) (From w.heap.size (jhv w6 w.heap.size (.string ⟨#[]⟩) (.int .i64 0) (.int .i64 0) (.string nm) (.int .i64 pol) (.bool comp) (.slice Ai ins.length ci) (.slice Ar rules.length cr))) ⟨nm,pol,comp,ins,rules⟩ (.agg #[.string nm,.int .i64 pol,.bool comp,.slice Ai ins.length ci,.slice Ar rules.length cr])):=(T6.out.keepS (fun k hk=>kz k (by have:=hk.1;omega) (by have:=hk.1;omega))).moreS (fun k hk=>⟨by have:=hk.1;omega,by have:=hk.2;rw [zz];omega⟩)
      clear Cz Cy Bz zz kz
      unfold jhv put5 put3 at CZ CY BZ TB
      obtain ⟨az,ac,af⟩:=Ca6.out
      have ac0:=ac 0 _ rfl
      have af0:=af 0 (by simp)
      have ac1:=ac 1 _ rfl
      have af1:=af 1 (by simp)
      have ac2:=ac 2 _ rfl
      have af2:=af 2 (by simp)
      clear ac af
      obtain ⟨bz,bc,bf⟩:=Cb6.out
      have bc0:=bc 0 _ rfl
      have bf0:=bf 0 (by simp)
      have bc1:=bc 1 _ rfl
      have bf1:=bf 1 (by simp)
      have bc2:=bc 2 _ rfl
      have bf2:=bf 2 (by simp)
      have bc3:=bc 3 _ rfl
      have bf3:=bf 3 (by simp)
      have bc4:=bc 4 _ rfl
      have bf4:=bf 4 (by simp)
      clear bc bf
      go_wp2_with fail
      go_region
      go_wp2
      refine bodyPost_ret (jjc (b:=w.heap.size) (c:=w.heap.size+1) rfl rfl rfl CZ.out.drew CY.out.drew) rfl ?_
      rw [HN.out]
      exact ⟨_,rfl,TB.out.drewF,BZ.out.drew⟩
   ·have HN:=Lib.hid (HE'.out.2.2.2.2 hW hT)
    clear HE'
    have k0:=jbm W
    have k1:(W == [100,111,109,97,105,110])=false:=beq_eq_false_iff_ne.2 hW
    have k2:(W == [116,97,98,108,101])=false:=beq_eq_false_iff_ne.2 hT
    have k3:¬ W = [100,111,109,97,105,110]:=hW
    have k4:¬ W = [116,97,98,108,101]:=hT
    clear hW hT
    obtain ⟨Cz,Cy,Bz,zz,kz⟩:=jhn (x:=(.string ⟨#[]⟩)) (y:=(.int .i64 0)) (z:=(.int .i64 0)) (a1:=(.string ⟨#[]⟩)) (a2:=(.int .i64 0)) (a3:=(.bool false)) (a4:=(.slice none 0 0)) (a5:=(.slice none 0 0)) Ca2.out Cb2.out B2.out
    have CZ:=Lib.hid Cz
    have CY:=Lib.hid Cy
    have BZ:=Lib.hid Bz
    have TB:Hid (ja9 (jhv w2 w.heap.size (.string ⟨#[]⟩) (.int .i64 0) (.int .i64 0) (.string ⟨#[]⟩) (.int .i64 0) (.bool false) (.slice none 0 0) (.slice none 0 0)) (From w.heap.size (jhv w2 w.heap.size (.string ⟨#[]⟩) (.int .i64 0) (.int .i64 0) (.string ⟨#[]⟩) (.int .i64 0) (.bool false) (.slice none 0 0) (.slice none 0 0))) je1 (.agg #[.string ⟨#[]⟩,.int .i64 0,.bool false,.slice none 0 0,.slice none 0 0])):=ja9.zero
    clear Cz Cy Bz zz kz
    unfold jhv put5 put3 at CZ CY BZ TB
    obtain ⟨az,ac,af⟩:=Ca2.out
    have ac0:=ac 0 _ rfl
    have af0:=af 0 (by simp)
    have ac1:=ac 1 _ rfl
    have af1:=af 1 (by simp)
    have ac2:=ac 2 _ rfl
    have af2:=af 2 (by simp)
    clear ac af
    obtain ⟨bz,bc,bf⟩:=Cb2.out
    have bc0:=bc 0 _ rfl
    have bf0:=bf 0 (by simp)
    have bc1:=bc 1 _ rfl
    have bf1:=bf 1 (by simp)
    have bc2:=bc 2 _ rfl
    have bf2:=bf 2 (by simp)
    have bc3:=bc 3 _ rfl
    have bf3:=bf 3 (by simp)
    have bc4:=bc 4 _ rfl
    have bf4:=bf 4 (by simp)
    clear bc bf
    go_wp2
    refine bodyPost_ret (jjc (b:=w.heap.size) (c:=w.heap.size+1) rfl rfl rfl CZ.out CY.out) rfl ?_
    rw [HN.out]
    exact ⟨_,rfl,TB.out,BZ.out⟩
open Go.RowKit Go.Shelf
theorem jlu (a b:Bs):bs a ++ bs b=bs (a ++ b):=by
 have:(bs a ++ bs b).data.toList=(bs (a ++ b)).data.toList:=by
  rw [ByteArray.data_append,Array.toList_append,jdb,jdb,jdb]
 rw [← ygm (bs a ++ bs b),← ygm (bs (a ++ b)),this]
theorem jmq (sep:Bs) (xs:List ByteArray) (v:Value) (w:World) (h:Sl Enc.str w (Old w) xs v) (hN:xs.length≤140737488355328) (hlen:(Lib.join (xs.map (·.data.toList)) sep).length≤140737488355328) :
  Calls Tryz.prog 49 #[v,.string (bs sep)] w fun e w'=>e = .returned (.string (bs (Lib.join (xs.map (·.data.toList)) sep)))∧Below w.heap.size w w':=by
 have H:=Lib.hid h
 obtain ⟨A,c,rfl,hc1,hc2,hn,h4⟩:=h
 by_cases h0:xs.length=0
 ·obtain rfl:xs = []:=List.length_eq_zero_iff.1 h0
  exact (Any.strings_Join_none Tryz.join Tryz.joinX A c (bs sep) w).mono fun e w' ⟨he,hw⟩=>⟨he,hw ▸ Below.refl _ _⟩
 ·obtain ⟨b,o,rfl,hb,_⟩:=h4 (by omega)
  have:=Any.strings_Join Tryz.join Tryz.joinX b o c xs (bs sep) w (fun j x hx=>?_) hb hN hc1 (by rw [jdb];exact hlen)
  ·rw [jdb] at this
   exact this
  have hj:j<xs.length:=(List.getElem?_eq_some_iff.1 hx).1
  obtain ⟨b',o',y,e,_,hy,hcell⟩:=H.out.str_at hj
  injection e with e
  injection e with e1 e2
  subst e1 e2
  have:y=x:=Option.some.inj (hy.out.symm.trans hx)
  subst this
  exact hcell
theorem jsq (a b:Int) (w:World) (hv:VarsOk w) (ha:inB a) (hb:inB b) :
  Calls Tryz.prog 109 #[.int .i64 a,.int .i64 b] w fun e w'=>e = .returned (.string (bs (ji8 a b)))∧Below w.heap.size w w':=by
 have HV:=Lib.hid hv
 have l1:=jh3 ha
 have l2:=jh3 hb
 obtain ⟨a1,a2⟩:=ha
 obtain ⟨b1,b2⟩:=hb
 go_enter Tryz.func109,Tryz.ntmps109
 go_wp2_with fail
 refine (je2 a (by omega) (by omega) _ HV.out).mono ?_
 rintro e w1 ⟨rfl,hb1⟩
 have HV1:=Lib.hid (HV.out.next hb1)
 have s1:=jeq (Lib.itoa a)
 have s2:=jeq (Lib.itoa b)
 go_wp2_with fail
 refine (je2 b (by omega) (by omega) _ HV1.out).mono ?_
 rintro e w2 ⟨rfl,hb2⟩
 go_wp2
 go_ret
 refine ⟨?_,bx hb1 hb2⟩
 show Ending.returned (.string (bs (Lib.itoa a) ++ bs [46,46] ++ bs (Lib.itoa b)))=_
 rw [jlu,jlu];rfl
theorem jwb (x y:Int) (w:World) (hv:VarsOk w) (hx:inB x) (hy:inB y) :
  Calls Tryz.prog 184 #[.agg #[.int .i64 x,.int .i64 y]] w fun e w'=>e = .returned (.string (bs (je9 (x,y))))∧Below w.heap.size w w':=by
 have hw0:=jaa w (.cells #[.int .i64 x,.int .i64 y] 87)
 have HV:=Lib.hid (hv.next hw0)
 have C0:=Cs.new w [.int .i64 x,.int .i64 y] 87
 have c0:=C0.at 0 rfl
 have c1:=C0.at 1 rfl
 clear C0
 by_cases h:x<y
 ·have HE:Hid (je9 (x,y)=ji8 x y):=by show _=_;unfold je9;rw [if_pos h]
  go_enter Tryz.func184,Tryz.ntmps184
  go_wp2_with fail
  refine (jsq x y _ HV.out hx hy).mono ?_
  rintro e w1 ⟨rfl,hb1⟩
  go_wp2
  go_ret
  exact ⟨by rw [HE.out];rfl,bx hw0 hb1⟩
 ·have HE:Hid (je9 (x,y)=Lib.itoa x):=by show _=_;unfold je9;rw [if_neg h]
  have h':y≤x:=by omega
  obtain ⟨a1,a2⟩:=hx
  go_enter Tryz.func184,Tryz.ntmps184
  go_wp2_with fail
  refine (je2 x (by omega) (by omega) _ HV.out).mono ?_
  rintro e w1 ⟨rfl,hb1⟩
  go_wp2
  go_ret
  exact ⟨by rw [HE.out];rfl,bx hw0 hb1⟩
theorem mapt {α β:Type} (f:α → β) {l:List α} {k:Nat} {x:α} (h:l[k]? = some x):(l.take (k+1)).map f=(l.take k).map f ++ [f x]:=by
 rw [List.take_add_one,h];simp
def jxm (r:Int × Int):ByteArray:=bs (je9 r)
def ygo (c:CellD):ByteArray:=bs (jih c)
theorem ju4 (l:List (Int × Int)):(l.map jxm).map (·.data.toList)=l.map je9:=by
 rw [List.map_map]
 exact List.map_congr_left fun r _=>jdb _
theorem jwm (l:List CellD):(l.map ygo).map (·.data.toList)=l.map jih:=by
 rw [List.map_map]
 exact List.map_congr_left fun r _=>jdb _
theorem jzw (ng:Bool) (rs:List (Int × Int)) (v:Value) (w:World) (hv:VarsOk w) (h:Sl Enc.rng w (Old w) rs v) (hl:rs.length≤4) (hr:∀ r∈rs,jpo r) :
  Calls Tryz.prog 153 #[.agg #[.bool ng,v]] w fun e w'=>e = .returned (.string (bs (jih (ng,rs))))∧Below w.heap.size w w':=by
 obtain ⟨A,c,rfl,hc1,hc2⟩:=h.form
 unfold maxLen at hc2
 have hw0:=jaa w (.cells #[.bool ng,.slice A rs.length c] 85)
 have HV:=Lib.hid (hv.next hw0)
 have H:=Lib.hid (h.onOld hw0)
 have C0:=Lib.hid (Cs.new w [.bool ng,.slice A rs.length c] 85)
 have c0:=C0.out.at 0 rfl
 have c1:=C0.out.at 1 rfl
 clear h
 change Hid (Cs (w.alloc (.cells #[.bool ng,.slice A rs.length c] 85)) w.heap.size [.bool ng,.slice A rs.length c]) at C0
 have HR:=Lib.hid hr
 clear hr
 by_cases h0:rs.length=0
 ·obtain rfl:rs = []:=List.length_eq_zero_iff.1 h0
  go_enter Tryz.func153,Tryz.ntmps153
  go_wp2
  go_ret
  exact ⟨rfl,hw0⟩
 ·have h0':((rs.length:Int) == 0)=false:=beq_eq_false_iff_ne.2 (by omega)
  have HE:Hid (jih (ng,rs)=(if ng then [110,111,116,32] else []) ++ Lib.join (rs.map je9) [124]):=by show _=_;unfold jih;rw [if_neg h0]
  go_enter Tryz.func153,Tryz.ntmps153
  go_wp2
  generalize w.alloc (.cells #[.bool ng,.slice A rs.length c] 85)=w0 at *
  go_loopw [3,14] (fun u i wr=>∃ k:Nat,k≤rs.length∧i = .int .i64 k∧Hid (OwnG Enc.str wr w0.heap.size w0.heap.size 9 u ((rs.take k).map jxm))∧Hid (Below w0.heap.size w0 wr)) (fun _ i _=>rs.length-(intOf i).toNat)
  case atStart=>exact ⟨0,Nat.zero_le _,rfl,OwnG.nil,Below.refl _ _⟩
  case round =>
   obtain ⟨k,hk,rfl,HO,HB⟩:=hrel
   have hsz:=HB.out.size
   by_cases hlt:k<rs.length
   ·obtain ⟨b,o,x,y,rfl,_,hx,d1,d2⟩:=(H.out.onOld HB.out).rng_at hlt
    have HT:=Lib.hid (mapt jxm hx.out)
    have hN:((rs.take k).map jxm).length=k:=by rw [List.length_map,List.length_take];omega
    have HN:=Lib.hid hN
    obtain ⟨q1,q2,_⟩:=HR.out _ (List.mem_of_getElem? hx.out)
    simp only at q1 q2
    have hw1:=jaa wr (.cells #[.int .i64 x,.int .i64 y] 87)
    have e0:(wr.alloc (.cells #[.int .i64 x,.int .i64 y] 87)).cell? ⟨wr.heap.size,0,none⟩=some (.int .i64 x):=jab _ _ _ _ _ rfl
    have e1:(wr.alloc (.cells #[.int .i64 x,.int .i64 y] 87)).cell? ⟨wr.heap.size,1,none⟩=some (.int .i64 y):=jab _ _ _ _ _ rfl
    have O1:=Lib.hid (HO.out.next hw1)
    have B1:=Lib.hid (bx HB.out hw1)
    clear hN
    go_wp2_with fail
    refine (jwb x y _ (HV.out.next B1.out) q1 q2).mono ?_
    rintro e w2 ⟨rfl,hb2⟩
    have O2:=Lib.hid ((O1.out.next hb2).alloc (.cells #[.string (bs (je9 (x,y)))] 9))
    have hz2:w0.heap.size≤(w2.alloc (.cells #[.string (bs (je9 (x,y)))] 9)).heap.size:=Nat.le_trans hsz (Nat.le_trans hw1.size (Nat.le_trans hb2.size (jaa w2 _).size))
    have B2:=Lib.hid (bx (bx B1.out hb2) (jaa w2 (.cells #[.string (bs (je9 (x,y)))] 9)))
    clear hb2 hw1 e0 e1
    go_wp2_with (at_builtin;refine jaf (E:=Enc.str) _ rfl _ _ 39 rfl w0.heap.size w0.heap.size 9 16 (.string ⟨#[]⟩) jhu jlh rfl (by decide) _ _ rfl O2.out ⟨w2.heap.size,0,none⟩ (jxm (x,y)) [.string (bs (je9 (x,y)))] rfl rfl (jhz w2 _ _) (by rw [HN.out];omega) (by rw [HN.out];unfold maxLen;omega) hz2 ?_;intro v' w3 hown' hgrow3 _)
    have hbel:=jag hgrow3 hz2 (fun k hk=>(O2.out.lt k hk).1)
    exact ⟨⟨k+1,by omega,by go_num,by show OwnG _ _ _ _ _ _ _;rw [HT.out];exact hown',B2.out.trans hbel⟩,by simp [intOf];omega⟩
   ·have e:rs.take k=rs:=List.take_of_length_le (by omega)
    have HO':=HO.out
    rw [e] at HO'
    obtain ⟨Au,cu,eu,-,-,-⟩:=HO'.form
    rw [List.length_map] at eu
    subst eu
    have HSL:=Lib.hid (HO'.slOld (Nat.le_refl _))
    have hjl:=jok (m:=18) (c:=124) (xs:=rs.map je9) (fun x hx=>by
     obtain ⟨r,hr,rfl⟩:=List.mem_map.1 hx
     exact jxo (HR.out r hr))
    rw [List.length_map] at hjl
    have hjj:=jmq [124] (rs.map jxm) _ wr HSL.out (by rw [List.length_map];omega) (by rw [ju4];omega)
    rw [ju4] at hjj
    generalize Lib.join (rs.map je9) [124]=J at *
    have hJ:=jeq J
    clear HO HO'
    go_wp2_with fail
    refine hjj.mono ?_
    rintro e w2 ⟨rfl,hb2⟩
    have B2:=Lib.hid (bx HB.out hb2)
    have f0:=(C0.out.next B2.out).at 0 rfl
    cases ng
    ·go_wp2
     go_ret
     refine ⟨?_,bx hw0 B2.out⟩
     rw [HE.out];rfl
    ·go_wp2
     go_ret
     refine ⟨?_,bx hw0 B2.out⟩
     rw [HE.out]
     show Ending.returned (.string (bs [110,111,116,32] ++ bs J))=_
     rw [jlu];rfl
theorem ya1 {c:CellD} (h:jcl c=true):c.2.length≤4∧∀ r∈c.2,jpo r:=by
 simp only [jcl,Bool.and_eq_true,decide_eq_true_eq] at h
 exact ⟨h.1.2,jmk _ _ h.2⟩
theorem jzx (cs:List CellD) (out:Int) (v:Value) (w:World) (hv:VarsOk w) (h:Sl Enc.cell w (Old w) cs v) (hl:cs.length≤3) (hr:∀ c∈cs,jcl c=true) (ho:inB out) :
  Calls Tryz.prog 111 #[.agg #[v,.int .i64 out]] w fun e w'=>e = .returned (.string (bs (jkq (cs,out))))∧Below w.heap.size w w':=by
 obtain ⟨A,c,rfl,hc1,hc2⟩:=h.form
 unfold maxLen at hc2
 have hw0:=jaa w (.cells #[.slice A cs.length c,.int .i64 out] 82)
 have HV:=Lib.hid (hv.next hw0)
 have H:=Lib.hid (h.onOld hw0)
 have C0:=Lib.hid (Cs.new w [.slice A cs.length c,.int .i64 out] 82)
 have c0:=C0.out.at 0 rfl
 have c1:=C0.out.at 1 rfl
 clear h
 change Hid (Cs (w.alloc (.cells #[.slice A cs.length c,.int .i64 out] 82)) w.heap.size [.slice A cs.length c,.int .i64 out]) at C0
 have HR:=Lib.hid hr
 clear hr
 have HE:Hid (jkq (cs,out)=Lib.join (cs.map jih) [44] ++ [32,61,62,32] ++ Lib.itoa out):=rfl
 have lo:=jh3 ho
 obtain ⟨o1,o2⟩:=ho
 go_enter Tryz.func111,Tryz.ntmps111
 go_wp2
 generalize w.alloc (.cells #[.slice A cs.length c,.int .i64 out] 82)=w0 at *
 go_loopw [3,9] (fun u i wr=>∃ k:Nat,k≤cs.length∧i = .int .i64 k∧Hid (OwnG Enc.str wr w0.heap.size w0.heap.size 9 u ((cs.take k).map ygo))∧Hid (Below w0.heap.size w0 wr)) (fun _ i _=>cs.length-(intOf i).toNat)
 case atStart=>exact ⟨0,Nat.zero_le _,rfl,OwnG.nil,Below.refl _ _⟩
 case round =>
  obtain ⟨k,hk,rfl,HO,HB⟩:=hrel
  have hsz:=HB.out.size
  by_cases hlt:k<cs.length
  ·obtain ⟨b,o,ng,rs,vv,rfl,_,hx,d1,d2,hrs⟩:=(H.out.onOld HB.out).cell_at hlt
   obtain ⟨Ar,cr,rfl,hr1,hr2⟩:=hrs.form
   have HT:=Lib.hid (mapt ygo hx.out)
   have hN:((cs.take k).map ygo).length=k:=by rw [List.length_map,List.length_take];omega
   have HN:=Lib.hid hN
   obtain ⟨q1,q2⟩:=ya1 (HR.out _ (List.mem_of_getElem? hx.out))
   simp only at q1 q2
   have Q2:=Lib.hid q2
   clear q2
   have hw1:=jaa wr (.cells #[.bool ng,.slice Ar rs.length cr] 85)
   have e0:(wr.alloc (.cells #[.bool ng,.slice Ar rs.length cr] 85)).cell? ⟨wr.heap.size,0,none⟩=some (.bool ng):=jab _ _ _ _ _ rfl
   have e1:(wr.alloc (.cells #[.bool ng,.slice Ar rs.length cr] 85)).cell? ⟨wr.heap.size,1,none⟩=some (.slice Ar rs.length cr):=jab _ _ _ _ _ rfl
   have HS:=Lib.hid (hrs.onOld hw1)
   have O1:=Lib.hid (HO.out.next hw1)
   have B1:=Lib.hid (bx HB.out hw1)
   clear hN hrs
   go_wp2_with fail
   refine (jzw ng rs _ _ (HV.out.next B1.out) HS.out q1 Q2.out).mono ?_
   rintro e w2 ⟨rfl,hb2⟩
   have O2:=Lib.hid ((O1.out.next hb2).alloc (.cells #[.string (bs (jih (ng,rs)))] 9))
   have hz2:w0.heap.size≤(w2.alloc (.cells #[.string (bs (jih (ng,rs)))] 9)).heap.size:=Nat.le_trans hsz (Nat.le_trans hw1.size (Nat.le_trans hb2.size (jaa w2 _).size))
   have B2:=Lib.hid (bx (bx B1.out hb2) (jaa w2 (.cells #[.string (bs (jih (ng,rs)))] 9)))
   clear hb2 hw1 e0 e1
   go_wp2_with (at_builtin;refine jaf (E:=Enc.str) _ rfl _ _ 39 rfl w0.heap.size w0.heap.size 9 16 (.string ⟨#[]⟩) jhu jlh rfl (by decide) _ _ rfl O2.out ⟨w2.heap.size,0,none⟩ (ygo (ng,rs)) [.string (bs (jih (ng,rs)))] rfl rfl (jhz w2 _ _) (by rw [HN.out];omega) (by rw [HN.out];unfold maxLen;omega) hz2 ?_;intro v' w3 hown' hgrow3 _)
   have hbel:=jag hgrow3 hz2 (fun k hk=>(O2.out.lt k hk).1)
   exact ⟨⟨k+1,by omega,by go_num,by show OwnG _ _ _ _ _ _ _;rw [HT.out];exact hown',B2.out.trans hbel⟩,by simp [intOf];omega⟩
  ·have e:cs.take k=cs:=List.take_of_length_le (by omega)
   have HO':=HO.out
   rw [e] at HO'
   obtain ⟨Au,cu,eu,-,-,-⟩:=HO'.form
   rw [List.length_map] at eu
   subst eu
   have HSL:=Lib.hid (HO'.slOld (Nat.le_refl _))
   have hjl:=jok (m:=80) (c:=44) (xs:=cs.map jih) (fun x hx=>by
    obtain ⟨r,hr,rfl⟩:=List.mem_map.1 hx
    exact yah (HR.out r hr))
   rw [List.length_map] at hjl
   have hjj:Hid (∀ W,Below wr.heap.size wr W→Calls Tryz.prog 49 #[.slice Au cs.length cu,.string (bs [44])] W fun e w'=>e = .returned (.string (bs (Lib.join (cs.map jih) [44])))∧Below W.heap.size W w'):=by
    intro W hW
    have:=jmq [44] (cs.map ygo) _ W (HSL.out.onOld hW) (by rw [List.length_map];omega) (by rw [jwm];omega)
    rw [jwm] at this
    exact this
   have hit:Hid (∀ W,Below wr.heap.size wr W→Calls Tryz.prog 152 #[.int .i64 out] W fun e w'=>e = .returned (.string (bs (Lib.itoa out)))∧Below W.heap.size W w') :=
    fun W hW=>je2 out (by omega) (by omega) W ((HV.out.next HB.out).next hW)
   generalize Lib.join (cs.map jih) [44]=J at *
   have hJ:=jeq J
   have hI:=jeq (Lib.itoa out)
   have f1:=(C0.out.next HB.out).at 1 rfl
   have hg1:w.heap.size<wr.heap.size:=(C0.out.next HB.out).1
   clear HO HO' c0 c1
   have f1':wr.drew.cell? ⟨w.heap.size,1,none⟩=some (.int .i64 out):=f1
   have a1:∀ W,(Op.stringOp .add (bs J) (⟨#[32,61,62,32]⟩:ByteArray)).run Tryz.prog W = .ok (.string (bs (J ++ [32,61,62,32]))) W:=fun W=>by
    rw [run_string_add_sum W (bs J) ⟨#[32,61,62,32]⟩ (by rw [hJ];show J.length+4≤_;omega)]
    show _=Result.ok (Value.string (bs (J ++ [32,61,62,32]))) W
    rw [← jlu];rfl
   have a2:∀ W,(Op.stringOp .add (bs (J ++ [32,61,62,32])) (bs (Lib.itoa out))).run Tryz.prog W = .ok (.string (bs (jkq (cs,out)))) W:=fun W=>by
    rw [run_string_add_sum W _ _ (by rw [hI,jeq,List.length_append];simp only [List.length_cons,List.length_nil];omega),jlu,HE.out]
   clear hJ hI hjl
   generalize hRB:bs (jkq (cs,out))=RB at *
   have HRB:=Lib.hid hRB
   clear hRB
   generalize bs (J ++ [32,61,62,32])=J4 at *
   generalize bs J=JB at *
   generalize bs (Lib.itoa out)=IB at *
   go_wp2_with fail
   go_region_held3 (fun w'=>w'.cell? ⟨w.heap.size,1,none⟩=some (.int .i64 out)) (first | exact f1 | exact f1' | exact k1 | exact k2)
    (first
    | (go_at_call 49;refine (hjj.out _ ?_).mono ?_;exact (Below.refl _ _).drew;rintro e w2 ⟨rfl,hb2⟩;have b2:Below wr.heap.size wr w2:=(Below.refl _ _).drew.trans hb2;have k1:=(b2.cell (p:=⟨w.heap.size,1,none⟩) hg1).trans f1;clear hb2)
    | (go_at_call 152;refine (hit.out _ ?_).mono ?_;exact b2;rintro e w3 ⟨rfl,hb3⟩;have b3:Below wr.heap.size wr w3:=bx b2 hb3;have k2:=(b3.cell (p:=⟨w.heap.size,1,none⟩) hg1).trans f1;clear hb3))
   go_wp2
   go_ret
   exact ⟨by rw [HRB.out];rfl,bx hw0 (bx HB.out b3)⟩
open Go.RowKit Go.Shelf
theorem ycr (l:Bs) (w:World) (h:l.length≤2000) :
  Calls Tryz.prog 112 #[.string (bs l)] w fun e w'=>e = .returned (.tuple #[.string (bs l),.int .i64 0])∧w'=w:=by
 have hsz:(bs l).size=l.length:=jeq l
 have h':(l.length:Int)≤2000:=by omega
 go_enter Tryz.func112,Tryz.ntmps112
 go_wp2
 go_ret2
 exact ⟨rfl,rfl⟩
theorem jsb {a b:ByteArray} {x y:Bs} (ha:a=bs x) (hb:b=bs y) (h:x.length+y.length≤4000) (W:World):(Op.stringOp .add a b).run Tryz.prog W = .ok (.string (bs (x ++ y))) W:=by
 subst ha hb
 rw [run_string_add_sum W _ _ (by rw [jeq,jeq];omega),jlu]
theorem ji1 (nm:ByteArray) (lo hi:Int) (w:World) (hv:VarsOk w) (hs:nm.size≤140737488355328) :
  Calls Tryz.prog 65 #[.agg #[.string nm,.int .i64 lo,.int .i64 hi]] w fun e w'=>e = .returned (if jef (nm,lo,hi) then .tuple #[.string (bs (domT (nm,lo,hi))),.int .i64 0] else .tuple #[.string ⟨#[]⟩,.int .i64 1])∧Below w.heap.size w w':=by
 have hw0:=jaa w (.cells #[.string nm,.int .i64 lo,.int .i64 hi] 58)
 have C0:=Lib.hid (Cs.new w [.string nm,.int .i64 lo,.int .i64 hi] 58)
 change Hid (Cs (w.alloc (.cells #[.string nm,.int .i64 lo,.int .i64 hi] 58)) w.heap.size [.string nm,.int .i64 lo,.int .i64 hi]) at C0
 have c0:=C0.out.at 0 rfl
 have c1:=C0.out.at 1 rfl
 have c2:=C0.out.at 2 rfl
 have HV:=Lib.hid (hv.next hw0)
 cases hG:jef (nm,lo,hi)
 ·have HG:=Lib.hid hG
  clear hG
  go_enter Tryz.func65,Tryz.ntmps65
  go_wp2_with fail
  generalize w.alloc (.cells #[.string nm,.int .i64 lo,.int .i64 hi] 58)=w0 at *
  refine (jid nm lo hi _ hs).mono ?_
  rintro e w1 ⟨rfl,hb1⟩
  rw [HG.out]
  go_wp2
  go_ret2
  exact ⟨rfl,bx hw0 hb1⟩
 ·have HG:=Lib.hid hG
  obtain ⟨g1,g2,g3⟩:=jim hG
  simp only at g1 g2 g3
  obtain ⟨n1,n2,n3⟩:=jdx g1
  have l1:=jh3 g2
  have l2:=jh3 g3
  have hends:(ji8 lo hi).length≤18:=by simp only [ji8,List.length_append,List.length_cons,List.length_nil];omega
  have a1:=jsb (a:=⟨#[100,111,109,97,105,110,32]⟩) (b:=nm) (x:=jbx ++ [32]) (y:=nm.data.toList) rfl (ygm nm).symm (by simp only [jbx,List.length_append,List.length_cons,List.length_nil];omega)
  have a2:=jsb (a:=bs (jbx ++ [32] ++ nm.data.toList)) (b:=⟨#[32]⟩) (y:=[32]) rfl rfl (by simp only [jbx,List.length_append,List.length_cons,List.length_nil];omega)
  have a3:=jsb (a:=bs (jbx ++ [32] ++ nm.data.toList ++ [32])) (b:=bs (ji8 lo hi)) rfl rfl (by simp only [jbx,List.length_append,List.length_cons,List.length_nil];omega)
  have a4:=jsb (a:=bs (jbx ++ [32] ++ nm.data.toList ++ [32] ++ ji8 lo hi)) (b:=⟨#[10]⟩) (y:=[10]) rfl rfl (by simp only [jbx,List.length_append,List.length_cons,List.length_nil];omega)
  have HE:Hid (bs (jbx ++ [32] ++ nm.data.toList ++ [32] ++ ji8 lo hi ++ [10])=bs (domT (nm,lo,hi))):=rfl
  have htw:Hid (∀ W,VarsOk W→Calls Tryz.prog 109 #[.int .i64 lo,.int .i64 hi] W fun e w'=>e = .returned (.string (bs (ji8 lo hi)))∧Below W.heap.size W w'):=fun W hW=>jsq lo hi W hW g2 g3
  clear hG g1 n1 n2 n3 l1 l2 hends
  generalize bs (jbx ++ [32] ++ nm.data.toList ++ [32] ++ ji8 lo hi ++ [10])=S4 at *
  generalize bs (jbx ++ [32] ++ nm.data.toList ++ [32] ++ ji8 lo hi)=S3 at *
  generalize bs (jbx ++ [32] ++ nm.data.toList ++ [32])=S2 at *
  generalize bs (jbx ++ [32] ++ nm.data.toList)=S1 at *
  generalize bs (ji8 lo hi)=EB at *
  simp only [if_true]
  go_enter Tryz.func65,Tryz.ntmps65
  go_wp2_with fail
  generalize w.alloc (.cells #[.string nm,.int .i64 lo,.int .i64 hi] 58)=w0 at *
  refine (jid nm lo hi _ hs).mono ?_
  rintro e w1 ⟨rfl,hb1⟩
  rw [HG.out]
  have C1:=Lib.hid (C0.out.next hb1)
  have d0:=C1.out.at 0 rfl
  have d1:=C1.out.at 1 rfl
  have d2:=C1.out.at 2 rfl
  have HV1:=Lib.hid (HV.out.next hb1)
  have hgz:=C1.out.1
  have B1:=Lib.hid (bx hw0 hb1)
  clear c0 c1 c2 hb1
  go_wp2_with fail
  go_region_held3 (fun w'=>w'.cell? ⟨w.heap.size,0,none⟩=some (.string nm)∧w'.cell? ⟨w.heap.size,1,none⟩=some (.int .i64 lo)∧w'.cell? ⟨w.heap.size,2,none⟩=some (.int .i64 hi)) (first | exact ⟨d0,d1,d2⟩ | exact ⟨k0,k1,k2⟩)
   (first
   | (go_at_call 109;refine (htw.out _ ?_).mono ?_;exact HV1.out.next (Below.refl _ _).drew;rintro e w2 ⟨rfl,hb2⟩;have b2:Below w1.heap.size w1 w2:=(Below.refl _ _).drew.trans hb2;have k0:=(b2.cell (p:=⟨w.heap.size,0,none⟩) hgz).trans d0;have k1:=(b2.cell (p:=⟨w.heap.size,1,none⟩) hgz).trans d1;have k2:=(b2.cell (p:=⟨w.heap.size,2,none⟩) hgz).trans d2;clear hb2))
  go_wp2
  go_ret2
  exact ⟨by rw [← HE.out];rfl,bx B1.out b2⟩
theorem yki {t:TabD} (h:jbd t=true):(juc t).length≤1700:=by
 have a:=jn4 h
 have e:∀ (x:Bs) (l:List Bs),Lib.join (x :: l) []=x ++ l.flatten:=by
  intro x l
  rw [Lib.join_cons]
  simp [Lib.joinTail]
 unfold jmd at a
 rw [List.cons_append,List.nil_append,List.cons_append,e,List.length_append] at a
 omega
theorem yon {t:TabD} (h:jbd t=true):t.ins.length≤3∧(Lib.join (t.ins.map (·.data.toList)) [44]).length≤27:=by
 have hok:=joi h
 simp only [jbd,Bool.and_eq_true,decide_eq_true_eq,jfs] at h
 have b:=jok (m:=8) (c:=44) (xs:=t.ins.map (·.data.toList)) (fun x hx=>by
  obtain ⟨s,hs,rfl⟩:=List.mem_map.1 hx
  exact (jdx (hok.2.2.1.2 s hs)).2.1)
 rw [List.length_map] at b
 have hl:t.ins.length≤3:=by omega
 have b2:t.ins.length*9≤3*9:=Nat.mul_le_mul_right _ hl
 exact ⟨hl,by omega⟩
theorem ys8 {k:Nat} (h1:1≤k):polL.getD k []=polT (k:Int):=by
 obtain ⟨m,rfl⟩:∃ m,k=m+1:=⟨k-1,by omega⟩
 show _=polW.getD (((m+1:Nat):Int).toNat-1) []
 simp [polL]
theorem yna (t:TabD) (v:Value) (w:World) (hv:VarsOk w) (h:ja9 w (Old w) t v) (hg:jbd t=true) :
  Calls Tryz.prog 110 #[v] w fun e w'=>e = .returned (.string (bs (juc t)))∧Below w.heap.size w w':=by
 have hhl:=yki hg
 obtain ⟨hil,hij⟩:=yon hg
 obtain ⟨q1,⟨q2,q3⟩,-,-⟩:=joi hg
 have HEt:Hid ((([bs jfj,t.name,bs (polT t.pol)] ++ [bs jpj] ++ [bs ([40] ++ Lib.join (t.ins.map (·.data.toList)) [44] ++ [41]),⟨#[123,10]⟩]).map (·.data.toList)) = [jfj,t.name.data.toList,polT t.pol] ++ [[99,111,109,112,108,101,116,101]] ++ [[40] ++ Lib.join (t.ins.map (·.data.toList)) [44] ++ [41],[123,10]]):=by
  show _=_
  simp only [List.map_append,List.map_cons,List.map_nil,jdb]
  try rfl
 have HEf:Hid ((([bs jfj,t.name,bs (polT t.pol)] ++ [bs ([40] ++ Lib.join (t.ins.map (·.data.toList)) [44] ++ [41]),⟨#[123,10]⟩]).map (·.data.toList)) = [jfj,t.name.data.toList,polT t.pol] ++ [[40] ++ Lib.join (t.ins.map (·.data.toList)) [44] ++ [41],[123,10]]):=by
  show _=_
  simp only [List.map_append,List.map_cons,List.map_nil,jdb]
  try rfl
 have HH:Hid (juc t=Lib.join ([jfj,t.name.data.toList,polT t.pol] ++ (if t.comp then [[99,111,109,112,108,101,116,101]] else []) ++ [[40] ++ Lib.join (t.ins.map (·.data.toList)) [44] ++ [41],[123,10]]) [32]):=rfl
 obtain ⟨nm,pol,comp,ins,rules⟩:=t
 obtain ⟨vi,vr,rfl,hi,hr⟩:=h
 simp only at hi hr q1 q2 q3 HEt HEf HH hil hij
 obtain ⟨Ai,ci,rfl,hc1,hc2⟩:=hi.form
 obtain ⟨Ar,cr,rfl,hd1,hd2⟩:=hr.form
 obtain ⟨k,rfl⟩:∃ k:Nat,pol=k:=⟨pol.toNat,by omega⟩
 have hw0:=jaa w (.cells #[.string nm,.int .i64 k,.bool comp,.slice Ai ins.length ci,.slice Ar rules.length cr] 56)
 have C0:=Lib.hid (Cs.new w [.string nm,.int .i64 k,.bool comp,.slice Ai ins.length ci,.slice Ar rules.length cr] 56)
 change Hid (Cs (w.alloc (.cells #[.string nm,.int .i64 k,.bool comp,.slice Ai ins.length ci,.slice Ar rules.length cr] 56)) w.heap.size [.string nm,.int .i64 k,.bool comp,.slice Ai ins.length ci,.slice Ar rules.length cr]) at C0
 have HV:=Lib.hid (hv.next hw0)
 have HI:=Lib.hid (hi.onOld hw0)
 have hcell:=yl6 (k:=k) (G:=0) (by kernel_rfl) HV.out (by omega)
 rw [ys8 (by omega)] at hcell
 have a1:=jsb (a:=⟨#[40]⟩) (b:=bs (Lib.join (ins.map (·.data.toList)) [44])) (x:=[40]) rfl rfl (by simp only [List.length_cons,List.length_nil];omega)
 have a2:=jsb (a:=bs ([40] ++ Lib.join (ins.map (·.data.toList)) [44])) (b:=⟨#[41]⟩) (y:=[41]) rfl rfl (by simp only [List.length_append,List.length_cons,List.length_nil];omega)
 generalize hSI:bs ([40] ++ Lib.join (ins.map (·.data.toList)) [44] ++ [41])=SI at *
 generalize bs ([40] ++ Lib.join (ins.map (·.data.toList)) [44])=SI0 at *
 generalize hPT:bs (polT (k:Int))=PT at *
 clear hi hr hv
 generalize hwe:w.alloc (.cells #[.string nm,.int .i64 k,.bool comp,.slice Ai ins.length ci,.slice Ar rules.length cr] 56)=w0 at *
 have c0:w0.drew.cell? ⟨w.heap.size,0,none⟩=some (.string nm):=C0.out.at 0 rfl
 have c1:w0.drew.cell? ⟨w.heap.size,1,none⟩=some (.int .i64 k):=C0.out.at 1 rfl
 have hcd:w0.drew.cell? ⟨0,k,none⟩=some (.string PT):=hcell
 have hk0:(0:Int)≤k:=by omega
 have hk8:(k:Int)<8:=by omega
 have hk8n:k<8:=by omega
 go_enter Tryz.func110,Tryz.ntmps110
 go_wp2_with fail
 clear hwe
 go_region
 have O1:Hid (OwnG Enc.str (w0.alloc (.cells #[.string ⟨#[116,97,98,108,101]⟩,.string nm,.string PT] 9)) w0.heap.size w0.heap.size 9 (.slice (some ⟨w0.heap.size,0,none⟩) 3 3) [bs jfj,nm,PT]):=by
  refine OwnG.lit (E:=Enc.str) w0 [bs jfj,nm,PT] #[.string ⟨#[116,97,98,108,101]⟩,.string nm,.string PT] (Nat.le_refl _) (by unfold maxLen;simp) rfl (fun i x hx=>?_)
  match i with
  | 0=>simp at hx;subst hx;exact ⟨[_],rfl,fun j u hu=>by match j with | 0=>exact hu | j+1=>simp at hu⟩
  | 1=>simp at hx;subst hx;exact ⟨[_],rfl,fun j u hu=>by match j with | 0=>exact hu | j+1=>simp at hu⟩
  | 2=>simp at hx;subst hx;exact ⟨[_],rfl,fun j u hu=>by match j with | 0=>exact hu | j+1=>simp at hu⟩
  | i+3=>simp at hx
 have hw1:Below w0.heap.size w0 (w0.alloc (.cells #[.string ⟨#[116,97,98,108,101]⟩,.string nm,.string PT] 9)).drew:=(jaa _ _).drew
 have O1':=Lib.hid O1.out.drewO
 clear O1 c0 c1 hcd hcell
 generalize (w0.alloc (.cells #[.string ⟨#[116,97,98,108,101]⟩,.string nm,.string PT] 9)).drew=w1 at *
 have f2:=(C0.out.next hw1).at 2 rfl
 cases comp
 ·have HE:Hid (Lib.join ((([bs jfj,nm,PT]) ++ [SI,⟨#[123,10]⟩]).map (·.data.toList)) [32]=juc ⟨nm,k,false,ins,rules⟩):=by
   show _=_
   rw [HEf.out,HH.out];rfl
  clear HEt HEf HH
  have Oq:=O1'
  have Bq:=Lib.hid hw1
  have HI1:=Lib.hid (HI.out.onOld Bq.out)
  have f3:=(C0.out.next Bq.out).at 3 rfl
  have hj:=jmq [44] ins _ w1 HI1.out (by omega) (by omega)
  go_wp2_with fail
  refine hj.mono ?_
  rintro e w5 ⟨rfl,hb5⟩
  have O5:=Lib.hid ((Oq.out.next hb5).alloc (.cells #[.string SI,.string ⟨#[123,10]⟩] 9))
  have B5:=Lib.hid (bx (bx Bq.out hb5) (jaa w5 (.cells #[.string SI,.string ⟨#[123,10]⟩] 9)))
  have M5:Hid (Sl Enc.str (w5.alloc (.cells #[.string SI,.string ⟨#[123,10]⟩] 9)) (Old (w5.alloc (.cells #[.string SI,.string ⟨#[123,10]⟩] 9))) [SI,⟨#[123,10]⟩] (.slice (some ⟨w5.heap.size,0,none⟩) 2 2)):=(OwnG.lit (E:=Enc.str) w5 (base:=w5.heap.size) (lo:=w5.heap.size) (e:=9) [SI,⟨#[123,10]⟩] #[.string SI,.string ⟨#[123,10]⟩] (Nat.le_refl _) (by unfold maxLen;simp) rfl (fun i x hx=>by
   match i with
   | 0=>simp at hx;subst hx;exact ⟨[_],rfl,fun j u hu=>by match j with | 0=>exact hu | j+1=>simp at hu⟩
   | 1=>simp at hx;subst hx;exact ⟨[_],rfl,fun j u hu=>by match j with | 0=>exact hu | j+1=>simp at hu⟩
   | i+2=>simp at hx)).slOld (Nat.le_refl _)
  have hz5:w0.heap.size≤(w5.alloc (.cells #[.string SI,.string ⟨#[123,10]⟩] 9)).heap.size:=B5.out.size
  clear hb5 f3 hj
  go_wp2_with (at_builtin;refine jb6 (E:=Enc.str) _ rfl _ _ 39 rfl w0.heap.size w0.heap.size 9 16 (.string ⟨#[]⟩) jhu jlh rfl (by decide) _ _ rfl O5.out _ [SI,⟨#[123,10]⟩] rfl _ M5.out (fun _ _ h=>h) (by show (5)*16≤140737488355328;omega) (by show 5≤maxLen;unfold maxLen;omega) hz5 ?_;intro v6 w6 hown6 hgrow6 _)
  have hbel6:=jag hgrow6 hz5 (fun k hk=>(O5.out.lt k hk).1)
  have B6:=Lib.hid (B5.out.trans hbel6)
  obtain ⟨A6,c6,e6,-,-,-⟩:=hown6.form
  replace e6:v6 = .slice A6 (5) c6:=e6
  subst e6
  have hj6:=jmq [32] ([bs jfj,nm,PT] ++ [SI,⟨#[123,10]⟩]) _ w6 (hown6.slOld (Nat.le_refl _)) (by show 5≤_;omega) (by rw [HE.out];omega)
  rw [HE.out] at hj6
  clear hown6 hgrow6 hbel6
  go_wp2_with fail
  refine hj6.mono ?_
  rintro e w7 ⟨rfl,hb7⟩
  go_wp2
  go_ret
  exact ⟨rfl,bx hw0 (bx B6.out hb7)⟩
 ·have HE:Hid (Lib.join ((([bs jfj,nm,PT] ++ [bs jpj]) ++ [SI,⟨#[123,10]⟩]).map (·.data.toList)) [32]=juc ⟨nm,k,true,ins,rules⟩):=by
   show _=_
   rw [HEt.out,HH.out];rfl
  clear HEt HEf HH
  have O2:=Lib.hid (O1'.out.alloc (.cells #[.string ⟨#[99,111,109,112,108,101,116,101]⟩] 9))
  have B2:=Lib.hid (bx hw1 (jaa w1 (.cells #[.string ⟨#[99,111,109,112,108,101,116,101]⟩] 9)))
  have hz2:w0.heap.size≤(w1.alloc (.cells #[.string ⟨#[99,111,109,112,108,101,116,101]⟩] 9)).heap.size:=B2.out.size
  go_wp2_with (at_builtin;refine jaf (E:=Enc.str) _ rfl _ _ 39 rfl w0.heap.size w0.heap.size 9 16 (.string ⟨#[]⟩) jhu jlh rfl (by decide) _ _ rfl O2.out ⟨w1.heap.size,0,none⟩ (bs jpj) [.string ⟨#[99,111,109,112,108,101,116,101]⟩] rfl rfl (jhz w1 _ _) (by show 4*16≤140737488355328;omega) (by show 4≤maxLen;unfold maxLen;omega) hz2 ?_;intro v3 w3 hown3 hgrow3 _;have hbel3:=jag hgrow3 hz2 (fun k hk=>(O2.out.lt k hk).1);obtain ⟨A3,c3,e3,-,-,-⟩:=hown3.form;replace e3:v3 = .slice A3 4 c3:=e3;subst e3;have Oq:=Lib.hid hown3;have Bq:=Lib.hid (B2.out.trans hbel3);have f3:=(C0.out.next Bq.out).at 3 rfl)
  clear hown3 hgrow3 hbel3 f2
  have HI1:=Lib.hid (HI.out.onOld Bq.out)
  have f3:=(C0.out.next Bq.out).at 3 rfl
  have hj:=jmq [44] ins _ w3 HI1.out (by omega) (by omega)
  go_wp2_with fail
  refine hj.mono ?_
  rintro e w5 ⟨rfl,hb5⟩
  have O5:=Lib.hid ((Oq.out.next hb5).alloc (.cells #[.string SI,.string ⟨#[123,10]⟩] 9))
  have B5:=Lib.hid (bx (bx Bq.out hb5) (jaa w5 (.cells #[.string SI,.string ⟨#[123,10]⟩] 9)))
  have M5:Hid (Sl Enc.str (w5.alloc (.cells #[.string SI,.string ⟨#[123,10]⟩] 9)) (Old (w5.alloc (.cells #[.string SI,.string ⟨#[123,10]⟩] 9))) [SI,⟨#[123,10]⟩] (.slice (some ⟨w5.heap.size,0,none⟩) 2 2)):=(OwnG.lit (E:=Enc.str) w5 (base:=w5.heap.size) (lo:=w5.heap.size) (e:=9) [SI,⟨#[123,10]⟩] #[.string SI,.string ⟨#[123,10]⟩] (Nat.le_refl _) (by unfold maxLen;simp) rfl (fun i x hx=>by
   match i with
   | 0=>simp at hx;subst hx;exact ⟨[_],rfl,fun j u hu=>by match j with | 0=>exact hu | j+1=>simp at hu⟩
   | 1=>simp at hx;subst hx;exact ⟨[_],rfl,fun j u hu=>by match j with | 0=>exact hu | j+1=>simp at hu⟩
   | i+2=>simp at hx)).slOld (Nat.le_refl _)
  have hz5:w0.heap.size≤(w5.alloc (.cells #[.string SI,.string ⟨#[123,10]⟩] 9)).heap.size:=B5.out.size
  clear hb5 f3 hj
  go_wp2_with (at_builtin;refine jb6 (E:=Enc.str) _ rfl _ _ 39 rfl w0.heap.size w0.heap.size 9 16 (.string ⟨#[]⟩) jhu jlh rfl (by decide) _ _ rfl O5.out _ [SI,⟨#[123,10]⟩] rfl _ M5.out (fun _ _ h=>h) (by show (6)*16≤140737488355328;omega) (by show 6≤maxLen;unfold maxLen;omega) hz5 ?_;intro v6 w6 hown6 hgrow6 _)
  have hbel6:=jag hgrow6 hz5 (fun k hk=>(O5.out.lt k hk).1)
  have B6:=Lib.hid (B5.out.trans hbel6)
  obtain ⟨A6,c6,e6,-,-,-⟩:=hown6.form
  replace e6:v6 = .slice A6 (6) c6:=e6
  subst e6
  have hj6:=jmq [32] (([bs jfj,nm,PT] ++ [bs jpj]) ++ [SI,⟨#[123,10]⟩]) _ w6 (hown6.slOld (Nat.le_refl _)) (by show 6≤_;omega) (by rw [HE.out];omega)
  rw [HE.out] at hj6
  clear hown6 hgrow6 hbel6
  go_wp2_with fail
  refine hj6.mono ?_
  rintro e w7 ⟨rfl,hb7⟩
  go_wp2
  go_ret
  exact ⟨rfl,bx hw0 (bx B6.out hb7)⟩
def ybl (r:RuleD):ByteArray:=bs (jpm r)
theorem jml {t:TabD} (h:jbd t=true):t.rules.length≤6∧∀ r∈t.rules,r.1.length≤3∧(∀ c∈r.1,jcl c=true)∧inB r.2∧(jkq r).length≤255:=by
 have h':=h
 simp only [jbd,Bool.and_eq_true,decide_eq_true_eq,jfs,jgv,List.all_eq_true] at h
 obtain ⟨⟨⟨⟨h1,h2⟩,h3⟩,⟨h4,h5⟩,h6⟩,⟨h7,h8⟩,h9⟩:=h
 refine ⟨h8,fun r hr=>?_⟩
 have hr':=h9 r hr
 have hl:=ybm (n:=t.ins.length) (by omega) hr'
 simp only [jfb,Bool.and_eq_true,decide_eq_true_eq,List.all_eq_true] at hr'
 obtain ⟨⟨⟨q1,q2⟩,q3⟩,q4⟩:=hr'
 refine ⟨by omega,q4,⟨q1,q2⟩,?_⟩
 simp only [jpm,List.length_append,List.length_cons,List.length_nil] at hl
 omega
theorem yip (t:TabD):Lib.join ((([bs (juc t)] ++ t.rules.map ybl) ++ [(⟨#[125,10]⟩:ByteArray)]).map (·.data.toList)) []=jmd t:=by
 have e:((([bs (juc t)] ++ t.rules.map ybl) ++ [(⟨#[125,10]⟩:ByteArray)]).map (·.data.toList)) = [juc t] ++ (t.rules.map fun r=>[32,32] ++ jkq r ++ [59,10]) ++ [[125,10]]:=by
  simp only [List.map_append,List.map_cons,List.map_nil,jdb,List.map_map]
  congr 2
 rw [e];rfl
theorem jr7 (t:TabD) (v:Value) (w:World) (hv:VarsOk w) (h:ja9 w (Old w) t v) (hs:jdm t) :
  Calls Tryz.prog 66 #[v] w fun e w'=>e = .returned (if jbd t then .tuple #[.string (bs (jmd t)),.int .i64 0] else .tuple #[.string ⟨#[]⟩,.int .i64 1])∧Below w.heap.size w w':=by
 have H0:=Lib.hid h
 have HS:=Lib.hid hs
 have HJ:=Lib.hid (yip t)
 have hG0:jbd t=true→Hid ((t.rules.length≤6∧∀ r∈t.rules,r.1.length≤3∧(∀ c∈r.1,jcl c=true)∧inB r.2∧(jkq r).length≤255)∧(jmd t).length≤1700):=fun hg=>⟨jml hg,jn4 hg⟩
 obtain ⟨nm,pol,comp,ins,rules⟩:=t
 obtain ⟨vi,vr,rfl,hi,hr⟩:=h
 simp only at hi hr HJ
 obtain ⟨Ai,ci,rfl,hc1,hc2⟩:=hi.form
 obtain ⟨Ar,cr,rfl,hd1,hd2⟩:=hr.form
 unfold maxLen at hd2
 have hw0:=jaa w (.cells #[.string nm,.int .i64 pol,.bool comp,.slice Ai ins.length ci,.slice Ar rules.length cr] 56)
 have C0:=Lib.hid (Cs.new w [.string nm,.int .i64 pol,.bool comp,.slice Ai ins.length ci,.slice Ar rules.length cr] 56)
 change Hid (Cs (w.alloc (.cells #[.string nm,.int .i64 pol,.bool comp,.slice Ai ins.length ci,.slice Ar rules.length cr] 56)) w.heap.size [.string nm,.int .i64 pol,.bool comp,.slice Ai ins.length ci,.slice Ar rules.length cr]) at C0
 have HV:=Lib.hid (hv.next hw0)
 have H1:=Lib.hid (H0.out.onOld hw0)
 have HR:=Lib.hid (hr.onOld hw0)
 have c0:=C0.out.at 0 rfl
 have c1:=C0.out.at 1 rfl
 have c2:=C0.out.at 2 rfl
 have c3:=C0.out.at 3 rfl
 have c4:=C0.out.at 4 rfl
 clear hi hr hs hv H0
 cases hG:jbd ⟨nm,pol,comp,ins,rules⟩
 ·have HG:=Lib.hid hG
  clear hG hG0
  go_enter Tryz.func66,Tryz.ntmps66
  go_wp2_with fail
  generalize w.alloc (.cells #[.string nm,.int .i64 pol,.bool comp,.slice Ai ins.length ci,.slice Ar rules.length cr] 56)=w0 at *
  refine (jeb _ _ _ H1.out HS.out).mono ?_
  rintro e w1 ⟨rfl,hb1⟩
  rw [HG.out]
  go_wp2
  go_ret2
  exact ⟨rfl,bx hw0 hb1⟩
 ·have HG:=Lib.hid hG
  obtain ⟨⟨hrl,hrr⟩,hlen⟩:=(hG0 hG).out
  simp only at hrl hrr
  have HRR:=Lib.hid hrr
  clear hG hG0 hrr
  simp only [if_true]
  go_enter Tryz.func66,Tryz.ntmps66
  go_wp2_with fail
  generalize w.alloc (.cells #[.string nm,.int .i64 pol,.bool comp,.slice Ai ins.length ci,.slice Ar rules.length cr] 56)=w0 at *
  refine (jeb _ _ _ H1.out HS.out).mono ?_
  rintro e w1 ⟨rfl,hb1⟩
  rw [HG.out]
  have C1:=Lib.hid (C0.out.next hb1)
  have HV1:=Lib.hid (HV.out.next hb1)
  have T1:=Lib.hid (H1.out.onOld hb1)
  have HR1:=Lib.hid (HR.out.onOld hb1)
  have d0:=C1.out.at 0 rfl
  have d1:=C1.out.at 1 rfl
  have d2:=C1.out.at 2 rfl
  have d3:=C1.out.at 3 rfl
  have d4:=C1.out.at 4 rfl
  have B1:=Lib.hid (bx hw0 hb1)
  clear c0 c1 c2 c3 c4 hb1 hw0
  go_wp2_with fail
  refine (yna _ _ _ HV1.out T1.out HG.out).mono ?_
  rintro e w2 ⟨rfl,hb2⟩
  have C2:=Lib.hid (C1.out.next hb2)
  have HV2:=Lib.hid (HV1.out.next hb2)
  have HR2:=Lib.hid (HR1.out.onOld hb2)
  have B2:=Lib.hid (bx B1.out hb2)
  generalize bs (juc ⟨nm,pol,comp,ins,rules⟩)=HD at *
  have hw3:=jaa w2 (.cells #[.string HD] 9)
  have O3:Hid (OwnG Enc.str (w2.alloc (.cells #[.string HD] 9)) w2.heap.size w2.heap.size 9 (.slice (some ⟨w2.heap.size,0,none⟩) 1 1) [HD]):=OwnG.lit (E:=Enc.str) w2 [HD] #[.string HD] (Nat.le_refl _) (by unfold maxLen;simp) rfl (jb9.one rfl)
  have f4:=(C2.out.next hw3).at 4 rfl
  clear d0 d1 d2 d3 d4 hb2
  go_wp2
  generalize w2.alloc (.cells #[.string HD] 9)=w3 at *
  go_loopw [4,16] (fun u i wr=>∃ k:Nat,k≤rules.length∧i = .int .i64 k∧Hid (OwnG Enc.str wr w2.heap.size w2.heap.size 9 u ([HD] ++ (rules.take k).map ybl))∧Hid (Below w2.heap.size w2 wr)) (fun _ i _=>rules.length-(intOf i).toNat)
  case atStart=>exact ⟨0,Nat.zero_le _,rfl,O3,hw3⟩
  case round =>
   obtain ⟨k,hk,rfl,HO,HB⟩:=hrel
   have hsz:=HB.out.size
   by_cases hlt:k<rules.length
   ·obtain ⟨b,o,cs,x,vv,rfl,_,hx,e1,e2,hcs⟩:=(HR2.out.onOld HB.out).rule_at hlt
    obtain ⟨Ac,cc,rfl,hr1,hr2⟩:=hcs.form
    have HT:=Lib.hid (mapt ybl hx.out)
    have hN:([HD] ++ (rules.take k).map ybl).length=k+1:=by simp only [List.length_append,List.length_map,List.length_take,List.length_cons,List.length_nil];omega
    have HN:=Lib.hid hN
    obtain ⟨q1,q2,q3,q4⟩:=HRR.out _ (List.mem_of_getElem? hx.out)
    simp only at q1 q2 q3
    have Q2:=Lib.hid q2
    have Q3:=Lib.hid q3
    have a1:=jsb (a:=⟨#[32,32]⟩) (b:=bs (jkq (cs,x))) (x:=[32,32]) rfl rfl (by simp only [List.length_cons,List.length_nil];omega)
    have a2:=jsb (a:=bs ([32,32] ++ jkq (cs,x))) (b:=⟨#[59,10]⟩) (y:=[59,10]) rfl rfl (by simp only [List.length_append,List.length_cons,List.length_nil];omega)
    have HLB:Hid (bs ([32,32] ++ jkq (cs,x) ++ [59,10])=ybl (cs,x)):=rfl
    clear q2 q3 q4 hN
    have hw4:=jaa wr (.cells #[.slice Ac cs.length cc,.int .i64 x] 82)
    have g0:(wr.alloc (.cells #[.slice Ac cs.length cc,.int .i64 x] 82)).cell? ⟨wr.heap.size,0,none⟩=some (.slice Ac cs.length cc):=jab _ _ _ _ _ rfl
    have g1:(wr.alloc (.cells #[.slice Ac cs.length cc,.int .i64 x] 82)).cell? ⟨wr.heap.size,1,none⟩=some (.int .i64 x):=jab _ _ _ _ _ rfl
    have HC:=Lib.hid (hcs.onOld hw4)
    have O4:=Lib.hid (HO.out.next hw4)
    have B4:=Lib.hid (bx HB.out hw4)
    clear hcs
    go_wp2_with fail
    refine (jzx cs x _ _ (HV2.out.next B4.out) HC.out q1 Q2.out Q3.out).mono ?_
    rintro e w5 ⟨rfl,hb5⟩
    generalize bs ([32,32] ++ jkq (cs,x) ++ [59,10])=LB at *
    generalize bs ([32,32] ++ jkq (cs,x))=LA at *
    generalize bs (jkq (cs,x))=LR at *
    have O5:=Lib.hid ((O4.out.next hb5).alloc (.cells #[.string LB] 9))
    have hz5:w2.heap.size≤(w5.alloc (.cells #[.string LB] 9)).heap.size:=Nat.le_trans hsz (Nat.le_trans hw4.size (Nat.le_trans hb5.size (jaa w5 _).size))
    have B5:=Lib.hid (bx (bx B4.out hb5) (jaa w5 (.cells #[.string LB] 9)))
    clear hb5 hw4 g0 g1
    go_wp2_with (at_builtin;refine jaf (E:=Enc.str) _ rfl _ _ 39 rfl w2.heap.size w2.heap.size 9 16 (.string ⟨#[]⟩) jhu jlh rfl (by decide) _ _ rfl O5.out ⟨w5.heap.size,0,none⟩ LB [.string LB] rfl rfl (jhz w5 _ _) (by rw [HN.out];omega) (by rw [HN.out];unfold maxLen;omega) hz5 ?_;intro v' w6 hown' hgrow6 _)
    have hbel:=jag hgrow6 hz5 (fun k hk=>(O5.out.lt k hk).1)
    refine ⟨⟨k+1,by omega,by go_num,?_,B5.out.trans hbel⟩,by simp [intOf];omega⟩
    show OwnG _ _ _ _ _ _ _
    rw [HT.out,← HLB.out,← List.append_assoc]
    exact hown'
   ·have e:rules.take k=rules:=List.take_of_length_le (by omega)
    have HO':=HO.out
    rw [e] at HO'
    obtain ⟨Au,cu,eu,-,-,-⟩:=HO'.form
    have hN:([HD] ++ rules.map ybl).length=rules.length+1:=by simp only [List.length_append,List.length_map,List.length_cons,List.length_nil];omega
    have HN:=Lib.hid hN
    rw [hN] at eu
    subst eu
    have O7:=Lib.hid (HO'.alloc (.cells #[.string ⟨#[125,10]⟩] 9))
    have B7:=Lib.hid (bx HB.out (jaa wr (.cells #[.string ⟨#[125,10]⟩] 9)))
    have hz7:w2.heap.size≤(wr.alloc (.cells #[.string ⟨#[125,10]⟩] 9)).heap.size:=B7.out.size
    clear HO HO' hN
    go_wp2_with (at_builtin;refine jaf (E:=Enc.str) _ rfl _ _ 39 rfl w2.heap.size w2.heap.size 9 16 (.string ⟨#[]⟩) jhu jlh rfl (by decide) _ _ rfl O7.out ⟨wr.heap.size,0,none⟩ ⟨#[125,10]⟩ [.string ⟨#[125,10]⟩] rfl rfl (jhz wr _ _) (by rw [HN.out];omega) (by rw [HN.out];unfold maxLen;omega) hz7 ?_;intro v8 w8 hown8 hgrow8 _)
    have hbel:=jag hgrow8 hz7 (fun k hk=>(O7.out.lt k hk).1)
    have B8:=Lib.hid (B7.out.trans hbel)
    obtain ⟨A8,c8,e8,-,-,-⟩:=hown8.form
    rw [List.length_append,HN.out] at e8
    replace e8:v8 = .slice A8 (rules.length+1+1) c8:=e8
    subst e8
    have hj:=jmq [] (([HD] ++ rules.map ybl) ++ [⟨#[125,10]⟩]) _ w8 (hown8.slOld (Nat.le_refl _)) (by rw [List.length_append,HN.out];show rules.length+1+1≤_;omega) (by rw [HJ.out];omega)
    rw [HJ.out] at hj
    clear hown8 hgrow8 hbel
    go_wp2_with fail
    refine hj.mono ?_
    rintro e w9 ⟨rfl,hb9⟩
    go_wp2_with fail
    refine (ycr _ _ (by omega)).mono ?_
    rintro e w10 ⟨rfl,rfl⟩
    go_wp2
    go_ret2
    exact ⟨rfl,bx B2.out (bx B8.out hb9)⟩
end Go.Proofs.YthmlndmlnlfhnaaGreatDoor
