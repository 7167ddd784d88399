import Derived.Test.YthmlndmlnlfhnaaGreatDoorK88e617fb
import Derived.Test.YthmlndmlnlfhnaaGreatDoorKedf7ebc5
import Derived.Test.YthmlndmlnlfhnaaGreatDoorK52898964
set_option maxRecDepth 100000
set_option maxHeartbeats 16000000
namespace Go.Proofs.YthmlndmlnlfhnaaGreatDoor
open Go.Lib (hid)
open Go.RowKit
def jar (w:World) (S:Nat→Prop) (b:BookD) (v:Value):Prop:=∃ vd vt,v = .agg #[vd,vt]∧Sl Enc.dom w S b.doms vd∧Sl Enc.tab w S b.tabs vt
theorem jar.onOld {w w':World} {b:BookD} {v:Value} (h:jar w (Old w) b v) (hb:Below w.heap.size w w'):jar w' (Old w') b v:=by
 obtain ⟨vd,vt,e,h1,h2⟩:=h;exact ⟨vd,vt,e,h1.onOld hb,h2.onOld hb⟩
def jgd (b:BookD):Prop:=(∀ d,d∈b.doms→d.1.size≤140737488355328)∧∀ t,t∈b.tabs→jdm t
theorem jlk {α:Type} {p:α→Bool} {l:List α} {k:Nat} {x:α} (h0:(l.take k).find? p=none) (h:l[k]? = some x) (hp:p x=true):l.find? p=some x:=by
 have e:l=l.take k ++ x :: l.drop (k+1):=by rw [← jdi h,List.take_append_drop]
 rw [e,List.find?_append,h0];simp [hp]
theorem jf3 {α:Type} {p:α→Bool} {l:List α} {k:Nat} {x:α} (h0:(l.take k).find? p=none) (h:l[k]? = some x) (hp:p x=false):(l.take (k+1)).find? p=none:=by
 rw [jai h,List.find?_append,h0];simp [hp]
theorem jtf {fn:Func} {p r:Tmp} {tmps:Array Value} {W:World} {b:Nat} {x y z:Value} (h:fn.results = #[.cell p 58,.tmp r]) (hp:tmps.getD p undef = .pointer (some ⟨b,0,none⟩)) (ht:Cs W b [x,y,z]) :
  (results fn tmps).run Tryz.prog W = .ok (.tuple #[.agg #[x,y,z],tmps.getD r undef]) W:=by
 have q0:=ht.at 0 rfl;have q1:=ht.at 1 rfl;have q2:=ht.at 2 rfl;have hp':tmps[p]?.getD undef = .pointer (some ⟨b,0,none⟩):=by simpa using hp
 simp [results,h,hp',go_sem,q0,q1,q2]
theorem jth {fn:Func} {p r:Tmp} {tmps:Array Value} {W:World} {b:Nat} {x y z u v:Value} (h:fn.results = #[.cell p 56,.tmp r]) (hp:tmps.getD p undef = .pointer (some ⟨b,0,none⟩)) (ht:Cs W b [x,y,z,u,v]) :
  (results fn tmps).run Tryz.prog W = .ok (.tuple #[.agg #[x,y,z,u,v],tmps.getD r undef]) W:=by
 have q0:=ht.at 0 rfl;have q1:=ht.at 1 rfl;have q2:=ht.at 2 rfl;have q3:=ht.at 3 rfl;have q4:=ht.at 4 rfl;have hp':tmps[p]?.getD undef = .pointer (some ⟨b,0,none⟩):=by simpa using hp
 simp [results,h,hp',go_sem,q0,q1,q2,q3,q4]
theorem jzi {fn:Func} {p r:Tmp} {tmps:Array Value} {W:World} {b:Nat} {x y:Value} (h:fn.results = #[.cell p 87,.tmp r]) (hp:tmps.getD p undef = .pointer (some ⟨b,0,none⟩)) (ht:Cs W b [x,y]) :
  (results fn tmps).run Tryz.prog W = .ok (.tuple #[.agg #[x,y],tmps.getD r undef]) W:=by
 have q0:=ht.at 0 rfl;have q1:=ht.at 1 rfl;have hp':tmps[p]?.getD undef = .pointer (some ⟨b,0,none⟩):=by simpa using hp
 simp [results,h,hp',go_sem,q0,q1]
def jz0 (R:Option DomD) (w:World) (e:Ending) (w':World):Prop:=e = .returned (.tuple #[domV (R.getD jnc),.bool R.isSome])∧Below w.heap.size w w'
theorem jhw (b:BookD) (s:ByteArray) (v:Value) (w:World) (h:jar w (Old w) b v) :
  Calls Tryz.prog 64 #[v,.string s] w (jz0 (jdj b.doms s) w):=by
 obtain ⟨doms,tabs⟩:=b;obtain ⟨vd,vt,rfl,h1,h2⟩:=h;simp only at h1 h2 ⊢;have H:=hid h1;obtain ⟨A,c,rfl,hc1,hc2,-⟩:=h1;obtain ⟨B,d,rfl,hd1,hd2,-⟩:=h2;unfold maxLen at hc2 hd2;have hb0:=jaa w (.cells #[.slice A doms.length c,.slice B tabs.length d] 38);have C0:=hid (Cs.new w [.slice A doms.length c,.slice B tabs.length d] 38);have hz0:(w.alloc (.cells #[.slice A doms.length c,.slice B tabs.length d] 38)).heap.size=w.heap.size+1:=by simp
 change Hid (Cs (w.alloc (.cells #[.slice A doms.length c,.slice B tabs.length d] 38)) _ _) at C0;generalize hw0:w.alloc (.cells #[.slice A doms.length c,.slice B tabs.length d] 38)=w0 at *;have hb1:=jaa w0 (.cells #[.string ⟨#[]⟩,.int .i64 0,.int .i64 0] 58);have C1:=hid (Cs.new w0 [.string ⟨#[]⟩,.int .i64 0,.int .i64 0] 58);change Hid (Cs (w0.alloc (.cells #[.string ⟨#[]⟩,.int .i64 0,.int .i64 0] 58)) _ _) at C1;rw [hz0] at C1;have C0':=hid (C0.out.next hb1);have k0:=C0'.out.at 0 rfl;have hb01:=bx hb0 hb1;generalize hw1:w0.alloc (.cells #[.string ⟨#[]⟩,.int .i64 0,.int .i64 0] 58)=w1 at *;generalize hR:jdj doms s=R;have HR:=hid hR;clear hR;go_enter Tryz.func64,Tryz.ntmps64
 go_wp2;go_loopw [11] (fun i wr=>∃ k:Nat,k≤doms.length∧i = .int .i64 k∧Hid ((doms.take k).find? (fun d=>jap d.1 s)=none)∧Hid (Cs wr (w.heap.size+1) [.string ⟨#[]⟩,.int .i64 0,.int .i64 0])∧Below w.heap.size w wr) (fun i _=>doms.length-(intOf i).toNat)
 case atStart=>exact ⟨0,Nat.zero_le _,rfl,rfl,C1,hb01⟩
 case round =>
  clear hw0 hw1 hb0 hb1 hb01 k0;obtain ⟨k,hk,rfl,hf,CR,hbl⟩:=hrel;by_cases hlt:k<doms.length
  ·obtain ⟨b,o,nm,lo,hi,rfl,_,hx,c1,c2,c3⟩:=(H.out.below (fun _ h=>h) hbl).dom_at hlt;have hbz:=jaa wr (.cells #[.string nm,.int .i64 lo,.int .i64 hi] 58);have hbl2:=bx hbl hbz;have CN:=hid (Cs.new wr [.string nm,.int .i64 lo,.int .i64 hi] 58);change Hid (Cs (wr.alloc (.cells #[.string nm,.int .i64 lo,.int .i64 hi] 58)) _ _) at CN;have CR2:=hid (CR.out.next hbz);have q0:=CN.out.at 0 rfl;have q1:=CN.out.at 1 rfl;have q2:=CN.out.at 2 rfl;have r0:=CR2.out.at 0 rfl;have r1:=CR2.out.at 1 rfl;have r2:=CR2.out.at 2 rfl;have f0:=CR2.out.2.2 0 (by decide);have f1:=CR2.out.2.2 1 (by decide);have f2:=CR2.out.2.2 2 (by decide);generalize hwa:wr.alloc (.cells #[.string nm,.int .i64 lo,.int .i64 hi] 58)=wa at *;by_cases hq:(nm.toList == s.toList)=true
   ·have HF:Hid (R=some (nm,lo,hi)):=by show _=_;rw [← HR.out];exact jlk hf.out hx.out hq
    go_wp2
    (try simp only [Exit.inBlock,Exit.then])
    refine bodyPost_ret (jtf (b:=w.heap.size+1) rfl rfl (((CR2.out.set 0 (by simp) _).set 1 (by simp) _).set 2 (by simp) _)) rfl ⟨?_,((hbl2.setCell (by simp) _).setCell (by simp) _).setCell (by simp) _⟩;rw [HF.out];rfl
   ·have hq':(nm.toList == s.toList)=false:=by simpa using hq
    have HN:=hid (jf3 (p:=fun d:DomD=>jap d.1 s) hf.out hx.out hq');clear hq;go_wp2;exact ⟨⟨k+1,by omega,by go_num,HN,CR2,hbl2⟩,by simp [intOf];omega⟩
  ·have HF:Hid (R=none):=by
    show _=_
    have:=hf.out
    rw [List.take_of_length_le (by omega)] at this;rw [← HR.out];exact this
   have r0:=CR.out.at 0 rfl;have r1:=CR.out.at 1 rfl;have r2:=CR.out.at 2 rfl;have f0:=CR.out.2.2 0 (by decide);have f1:=CR.out.2.2 1 (by decide);have f2:=CR.out.2.2 2 (by decide);go_wp2
   (try simp only [Exit.inBlock,Exit.then])
   refine bodyPost_ret (jtf (b:=w.heap.size+1) rfl rfl (((CR.out.set 0 (by simp) _).set 1 (by simp) _).set 2 (by simp) _)) rfl ⟨?_,((hbl.setCell (by simp) _).setCell (by simp) _).setCell (by simp) _⟩;rw [HF.out];rfl
def jlq (R:Option TabD) (w:World) (e:Ending) (w':World):Prop:=∃ v,e = .returned (.tuple #[v,.bool R.isSome])∧ja9 w' (Old w') (R.getD je1) v∧Below w.heap.size w w'
theorem ji3 (b:BookD) (s:ByteArray) (v:Value) (w:World) (h:jar w (Old w) b v) :
  Calls Tryz.prog 56 #[v,.string s] w (jlq (jb3 b.tabs s) w):=by
 obtain ⟨doms,tabs⟩:=b;obtain ⟨vd,vt,rfl,h1,h2⟩:=h;simp only at h1 h2 ⊢;have H:=hid h2;obtain ⟨A,c,rfl,hc1,hc2,-⟩:=h1;obtain ⟨B,d,rfl,hd1,hd2,-⟩:=h2;unfold maxLen at hc2 hd2;have hb0:=jaa w (.cells #[.slice A doms.length c,.slice B tabs.length d] 38);have C0:=hid (Cs.new w [.slice A doms.length c,.slice B tabs.length d] 38);have hz0:(w.alloc (.cells #[.slice A doms.length c,.slice B tabs.length d] 38)).heap.size=w.heap.size+1:=by simp
 change Hid (Cs (w.alloc (.cells #[.slice A doms.length c,.slice B tabs.length d] 38)) _ _) at C0;generalize hw0:w.alloc (.cells #[.slice A doms.length c,.slice B tabs.length d] 38)=w0 at *;have hb1:=jaa w0 (.cells #[.string ⟨#[]⟩,.int .i64 0,.bool false,.slice none 0 0,.slice none 0 0] 56);have C1:=hid (Cs.new w0 [.string ⟨#[]⟩,.int .i64 0,.bool false,.slice none 0 0,.slice none 0 0] 56);change Hid (Cs (w0.alloc (.cells #[.string ⟨#[]⟩,.int .i64 0,.bool false,.slice none 0 0,.slice none 0 0] 56)) _ _) at C1;rw [hz0] at C1;have C0':=hid (C0.out.next hb1);have k1:=C0'.out.at 1 rfl;have hb01:=bx hb0 hb1;generalize hw1:w0.alloc (.cells #[.string ⟨#[]⟩,.int .i64 0,.bool false,.slice none 0 0,.slice none 0 0] 56)=w1 at *;generalize hR:jb3 tabs s=R;have HR:=hid hR;clear hR;go_enter Tryz.func56,Tryz.ntmps56
 go_wp2;go_loopw [11] (fun i wr=>∃ k:Nat,k≤tabs.length∧i = .int .i64 k∧Hid ((tabs.take k).find? (fun t=>jap t.name s)=none)∧Hid (Cs wr (w.heap.size+1) [.string ⟨#[]⟩,.int .i64 0,.bool false,.slice none 0 0,.slice none 0 0])∧Below w.heap.size w wr) (fun i _=>tabs.length-(intOf i).toNat)
 case atStart=>exact ⟨0,Nat.zero_le _,rfl,rfl,C1,hb01⟩
 case round =>
  clear hw0 hw1 hb0 hb1 hb01 k1;obtain ⟨k,hk,rfl,hf,CR,hbl⟩:=hrel;by_cases hlt:k<tabs.length
  ·obtain ⟨b,o,nm,pol,comp,ins,rules,vi,vr,rfl,_,hx,c1,c2,c3,c4,c5,hi,hr⟩:=(H.out.onOld hbl).tab_at hlt;have HI:=hid hi;have HU:=hid hr;obtain ⟨Ai,ci,rfl,-,-⟩:=hi.form;obtain ⟨Ar,cr,rfl,-,-⟩:=hr.form;clear hi hr;have hbz:=jaa wr (.cells #[.string nm,.int .i64 pol,.bool comp,.slice Ai ins.length ci,.slice Ar rules.length cr] 56);have hbl2:=bx hbl hbz;have CN:=hid (Cs.new wr [.string nm,.int .i64 pol,.bool comp,.slice Ai ins.length ci,.slice Ar rules.length cr] 56);change Hid (Cs (wr.alloc (.cells #[.string nm,.int .i64 pol,.bool comp,.slice Ai ins.length ci,.slice Ar rules.length cr] 56)) _ _) at CN;have CR2:=hid (CR.out.next hbz);have q0:=CN.out.at 0 rfl;have q1:=CN.out.at 1 rfl;have q2:=CN.out.at 2 rfl;have q3:=CN.out.at 3 rfl;have q4:=CN.out.at 4 rfl;have r0:=CR2.out.at 0 rfl;have r1:=CR2.out.at 1 rfl;have r2:=CR2.out.at 2 rfl;have r3:=CR2.out.at 3 rfl;have r4:=CR2.out.at 4 rfl;have f0:=CR2.out.2.2 0 (by decide);have f1:=CR2.out.2.2 1 (by decide);have f2:=CR2.out.2.2 2 (by decide);have f3:=CR2.out.2.2 3 (by decide);have f4:=CR2.out.2.2 4 (by decide);have HT:Hid (ja9 w (Old w) ⟨nm,pol,comp,ins,rules⟩ (.agg #[.string nm,.int .i64 pol,.bool comp,.slice Ai ins.length ci,.slice Ar rules.length cr])):=by
    obtain ⟨b',o',nm',pol',comp',ins',rules',vi',vr',e',_,hx',d1,d2,d3,d4,d5,hi',hr'⟩:=H.out.tab_at hlt;obtain ⟨rfl,rfl⟩:=jc5 e';have e:=hx.out.symm.trans hx'.out;injection e with e;injection e with e1 e2 e3 e4 e5;subst e1 e2 e3 e4 e5;have g4:=(hbl.cell (p:=⟨b,o+k*5+3,none⟩) (by assumption)).trans d4;have g5:=(hbl.cell (p:=⟨b,o+k*5+4,none⟩) (by assumption)).trans d5;rw [c4] at g4;rw [c5] at g5;injection g4 with g4;injection g5 with g5;subst g4 g5;exact ⟨_,_,rfl,hi',hr'⟩
   generalize hwa:wr.alloc (.cells #[.string nm,.int .i64 pol,.bool comp,.slice Ai ins.length ci,.slice Ar rules.length cr] 56)=wa at *;by_cases hq:(nm.toList == s.toList)=true
   ·have HF:Hid (R=some ⟨nm,pol,comp,ins,rules⟩):=by show _=_;rw [← HR.out];exact jlk hf.out hx.out hq
    go_wp2
    (try simp only [Exit.inBlock,Exit.then])
    refine bodyPost_ret (jth (b:=w.heap.size+1) rfl rfl (((((CR2.out.set 0 (by simp) _).set 1 (by simp) _).set 2 (by simp) _).set 3 (by simp) _).set 4 (by simp) _)) rfl ?_;unfold jlq;rw [HF.out];refine ⟨_,rfl,HT.out.onOld ?_,?_⟩ <;> exact ((((hbl2.setCell (by simp) _).setCell (by simp) _).setCell (by simp) _).setCell (by simp) _).setCell (by simp) _
   ·have hq':(nm.toList == s.toList)=false:=by simpa using hq
    have HN:=hid (jf3 (p:=fun t:TabD=>jap t.name s) hf.out hx.out hq');clear hq;go_wp2;exact ⟨⟨k+1,by omega,by go_num,HN,CR2,hbl2⟩,by simp [intOf];omega⟩
  ·have HF:Hid (R=none):=by
    show _=_
    have:=hf.out
    rw [List.take_of_length_le (by omega)] at this;rw [← HR.out];exact this
   have r0:=CR.out.at 0 rfl;have r1:=CR.out.at 1 rfl;have r2:=CR.out.at 2 rfl;have r3:=CR.out.at 3 rfl;have r4:=CR.out.at 4 rfl;have f0:=CR.out.2.2 0 (by decide);have f1:=CR.out.2.2 1 (by decide);have f2:=CR.out.2.2 2 (by decide);have f3:=CR.out.2.2 3 (by decide);have f4:=CR.out.2.2 4 (by decide);go_wp2
   (try simp only [Exit.inBlock,Exit.then])
   refine bodyPost_ret (jth (b:=w.heap.size+1) rfl rfl (((((CR.out.set 0 (by simp) _).set 1 (by simp) _).set 2 (by simp) _).set 3 (by simp) _).set 4 (by simp) _)) rfl ?_;unfold jlq;rw [HF.out];exact ⟨_,rfl,⟨_,_,rfl,Sl.nil,Sl.nil⟩,((((hbl.setCell (by simp) _).setCell (by simp) _).setCell (by simp) _).setCell (by simp) _).setCell (by simp) _⟩
theorem jsd (n:Int) (w:World):Calls Tryz.prog 85 #[.int .i64 n] w fun e w'=>e = .returned (.bool (inBd n))∧Below w.heap.size w w':=by
 have HE:Hid (inBd n=(decide (-1000000≤n) && decide (n≤1000000))):=rfl;generalize inBd n=R at *;by_cases h1:-1000000≤n
 ·by_cases h2:n≤1000000
  ·have HR:Hid (R=true):=by show _=_;rw [HE.out];simp [h1,h2]
   clear HE;go_enter Tryz.func85,Tryz.ntmps85
   go_wp2;go_ret;exact ⟨jad HR.out.symm,Below.refl _ _⟩
  ·have HR:Hid (R=false):=by show _=_;rw [HE.out];simp [h2]
   have h2':1000000<n:=by omega
   clear HE;go_enter Tryz.func85,Tryz.ntmps85
   go_wp2;go_ret;exact ⟨jad HR.out.symm,Below.refl _ _⟩
 ·have HR:Hid (R=false):=by show _=_;rw [HE.out];simp [h1]
  have h1':n < -1000000:=by omega
  clear HE;go_enter Tryz.func85,Tryz.ntmps85
  go_wp2;go_ret;exact ⟨jad HR.out.symm,Below.refl _ _⟩
open Go.Lib (hid)
open Go.RowKit
theorem jik {b:BookD} (hs:jgd b) (s:ByteArray):jdm ((jb3 b.tabs s).getD je1):=by
 cases h:jb3 b.tabs s with
 | none=>exact ⟨by decide,fun x hx=>by simp [je1] at hx,by decide⟩
 | some t=>exact hs.2 t (jd8 h).1
def yqt (R:Option (Int × Int)) (w:World) (e:Ending) (w':World):Prop:=e = .returned (.tuple #[.agg #[.int .i64 (R.getD (0,0)).1,.int .i64 (R.getD (0,0)).2],.bool R.isSome])∧Below w.heap.size w w'
theorem ynt (b:BookD) (s:ByteArray) (v:Value) (w:World) (h:jar w (Old w) b v) (hs:jgd b) :
  Calls Tryz.prog 84 #[v,.string s] w (yqt (allO b s) w):=by
 have HS:=hid (jik hs s);have HB:=hid h;have HE:Hid (allO b s=match jdj b.doms s with | some d=>some (d.2.1,d.2.2) | none=>(jb3 b.tabs s).map jgq):=rfl;generalize allO b s=R at *;obtain ⟨vd,vt,rfl,h1,h2⟩:=h;obtain ⟨A,c,rfl,hc1,hc2,-⟩:=h1;obtain ⟨B,d,rfl,hd1,hd2,-⟩:=h2;clear hs;have hb0:=jaa w (.cells #[.slice A b.doms.length c,.slice B b.tabs.length d] 38);have C0:=hid (Cs.new w [.slice A b.doms.length c,.slice B b.tabs.length d] 38);have hz0:(w.alloc (.cells #[.slice A b.doms.length c,.slice B b.tabs.length d] 38)).heap.size=w.heap.size+1:=by simp
 change Hid (Cs (w.alloc (.cells #[.slice A b.doms.length c,.slice B b.tabs.length d] 38)) _ _) at C0;generalize hw0:w.alloc (.cells #[.slice A b.doms.length c,.slice B b.tabs.length d] 38)=w0 at *;have hb1:=jaa w0 (.cells #[.int .i64 0,.int .i64 0] 87);have C1:=hid (Cs.new w0 [.int .i64 0,.int .i64 0] 87);change Hid (Cs (w0.alloc (.cells #[.int .i64 0,.int .i64 0] 87)) _ _) at C1;rw [hz0] at C1;have C01:=hid (C0.out.next hb1);have k0:=C01.out.at 0 rfl;have k1:=C01.out.at 1 rfl;have hb01:=bx hb0 hb1;generalize hw1:w0.alloc (.cells #[.int .i64 0,.int .i64 0] 87)=w1 at *;have HB1:=hid (HB.out.onOld hb01);go_enter Tryz.func84,Tryz.ntmps84
 go_wp2_with fail
 clear hw0 hw1 k0 k1;refine (jhw b s _ _ HB1.out).mono ?_;rintro e w2 ⟨rfl,hb2⟩;have C02:=hid (C01.out.next hb2);have C12:=hid (C1.out.next hb2);have hb02:=bx hb01 hb2;have HB2:=hid (HB1.out.onOld hb2);cases hf:jdj b.doms s with
 | some d =>
  obtain ⟨nm,lo,hi⟩:=d;have HR:Hid (R=some (lo,hi)):=by show _=_;rw [HE.out,hf]
  clear hf HE;simp only [Option.getD_some,Option.isSome_some,domV];have hbz:=jaa w2 (.cells #[.string nm,.int .i64 lo,.int .i64 hi] 58);have hbl2:=bx hb02 hbz;have CN:=hid (Cs.new w2 [.string nm,.int .i64 lo,.int .i64 hi] 58);change Hid (Cs (w2.alloc (.cells #[.string nm,.int .i64 lo,.int .i64 hi] 58)) _ _) at CN;have CR2:=hid (C12.out.next hbz);have q0:=CN.out.at 0 rfl;have q1:=CN.out.at 1 rfl;have q2:=CN.out.at 2 rfl;have r0:=CR2.out.at 0 rfl;have r1:=CR2.out.at 1 rfl;have f0:=CR2.out.2.2 0 (by decide);have f1:=CR2.out.2.2 1 (by decide);generalize hwa:w2.alloc (.cells #[.string nm,.int .i64 lo,.int .i64 hi] 58)=wa at *;go_wp2
  (try simp only [Exit.inBlock,Exit.then])
  refine bodyPost_ret (jzi (b:=w.heap.size+1) rfl rfl ((CR2.out.set 0 (by simp) _).set 1 (by simp) _)) rfl ⟨?_,(hbl2.setCell (by simp) _).setCell (by simp) _⟩;rw [HR.out];rfl
 | none =>
  have HE2:Hid (R=(jb3 b.tabs s).map jgq):=by show _=_;rw [HE.out,hf]
  clear hf HE;simp only [Option.getD_none,Option.isSome_none,domV,jnc];have hbz:=jaa w2 (.cells #[.string ⟨#[]⟩,.int .i64 0,.int .i64 0] 58);have hb03:=bx hb02 hbz;have C03:=hid (C02.out.next hbz);have C13:=hid (C12.out.next hbz);have HB3:=hid (HB2.out.onOld hbz);have k0:=C03.out.at 0 rfl;have k1:=C03.out.at 1 rfl;go_wp2_with fail
  generalize hwa:w2.alloc (.cells #[.string ⟨#[]⟩,.int .i64 0,.int .i64 0] 58)=wa at *;clear hwa k0 k1 C02 C12;refine (ji3 b s _ _ HB3.out).mono ?_;rintro e w3 ⟨vt3,rfl,ht3,hb3⟩;have C14:=hid (C13.out.next hb3);have hb04:=bx hb03 hb3;have HT:=hid ht3;obtain ⟨vi,vr,rfl,hi3,hr3⟩:=ht3;obtain ⟨Ai,ci,rfl,-,-⟩:=hi3.form;obtain ⟨Ar,cr,rfl,-,-⟩:=hr3.form;clear hi3 hr3;generalize hnt:(jb3 b.tabs s).getD je1=nt at *;have hbz2:=jaa w3 (.cells #[.string nt.name,.int .i64 nt.pol,.bool nt.comp,.slice Ai nt.ins.length ci,.slice Ar nt.rules.length cr] 56);have CN:=hid (Cs.new w3 [.string nt.name,.int .i64 nt.pol,.bool nt.comp,.slice Ai nt.ins.length ci,.slice Ar nt.rules.length cr] 56);change Hid (Cs (w3.alloc (.cells #[.string nt.name,.int .i64 nt.pol,.bool nt.comp,.slice Ai nt.ins.length ci,.slice Ar nt.rules.length cr] 56)) _ _) at CN;have hb05:=bx hb04 hbz2;have C15:=hid (C14.out.next hbz2);have HT5:=hid (HT.out.onOld hbz2);have q0:=CN.out.at 0 rfl;have q1:=CN.out.at 1 rfl;have q2:=CN.out.at 2 rfl;have q3:=CN.out.at 3 rfl;have q4:=CN.out.at 4 rfl;generalize hwb:w3.alloc (.cells #[.string nt.name,.int .i64 nt.pol,.bool nt.comp,.slice Ai nt.ins.length ci,.slice Ar nt.rules.length cr] 56)=wb at *;cases hf:jb3 b.tabs s with
  | some t =>
   have hte:nt=t:=by rw [← hnt,hf];rfl
   subst hte;have HR:Hid (R=some (jgq nt)):=by show _=_;rw [HE2.out,hf];rfl
   clear hf HE2 hnt;simp only [Option.isSome_some];go_wp2_with fail
   clear hwb;refine (ji0 nt _ _ HT5.out HS.out).mono ?_;rintro e w5 ⟨rfl,hb5⟩;have C16:=hid (C15.out.next hb5);have r0:=C16.out.at 0 rfl;have r1:=C16.out.at 1 rfl;have f0:=C16.out.2.2 0 (by decide);have f1:=C16.out.2.2 1 (by decide);have hb06:=bx hb05 hb5;go_wp2
   (try simp only [Exit.inBlock,Exit.then])
   refine bodyPost_ret (jzi (b:=w.heap.size+1) rfl rfl ((C16.out.set 0 (by simp) _).set 1 (by simp) _)) rfl ⟨?_,(hb06.setCell (by simp) _).setCell (by simp) _⟩;rw [HR.out];rfl
  | none =>
   have HR:Hid (R=none):=by show _=_;rw [HE2.out,hf];rfl
   clear hf HE2 hnt;simp only [Option.isSome_none];have r0:=C15.out.at 0 rfl;have r1:=C15.out.at 1 rfl;have f0:=C15.out.2.2 0 (by decide);have f1:=C15.out.2.2 1 (by decide);go_wp2
   (try simp only [Exit.inBlock,Exit.then])
   refine bodyPost_ret (jzi (b:=w.heap.size+1) rfl rfl ((C15.out.set 0 (by simp) _).set 1 (by simp) _)) rfl ⟨?_,(hb05.setCell (by simp) _).setCell (by simp) _⟩;rw [HR.out];rfl
open Go.Lib (hid)
open Go.RowKit
theorem yml (b:BookD) (s:ByteArray):rngO b s=match allO b s with | some r=>if inBd r.1 && inBd r.2 then some r else none | none=>none:=rfl
theorem jse {b:BookD} {l:List ByteArray} {k:Nat} {s:ByteArray} (h:l[k]? = some s) (hn:rngO b s=none):je0 b l=false:=by
 unfold je0;rw [List.all_eq_false];exact ⟨s,List.mem_of_getElem? h,by rw [hn];simp⟩
theorem jyd {b:BookD} {l:List ByteArray} {k:Nat} {s:ByteArray} {r:Int × Int} (h:l[k]? = some s) (h0:je0 b (l.take k)=true) (hn:rngO b s=some r):je0 b (l.take (k+1))=true∧boxL b (l.take (k+1))=boxL b (l.take k) ++ [[r]]:=by
 rw [jai h];unfold je0 boxL at *;rw [List.all_append,h0,List.map_append];simp [hn]
theorem BoxPost.no {b:BookD} {t:TabD} {w w':World} (h:je0 b t.ins=false) (hb:Below w.heap.size w w'):jcj (boxV b t).1 (boxV b t).2 w (.returned (.tuple #[.slice none 0 0,.bool false])) w':=by
 unfold boxV;rw [h];exact ⟨_,rfl,Sl.nil,hb⟩
theorem BoxPost.yes {b:BookD} {t:TabD} {w w':World} {v:Value} (h:je0 b t.ins=true) (hs:Sl Enc.rng.slice w' (From w.heap.size w') (boxL b t.ins) v) (hb:Below w.heap.size w w'):jcj (boxV b t).1 (boxV b t).2 w (.returned (.tuple #[v,.bool true])) w':=by
 unfold boxV;rw [h];exact ⟨_,rfl,hs,hb⟩
theorem yd6 (w:World) (lo hi:Int) (e:Nat):Sl Enc.rng (w.alloc (.cells #[.int .i64 lo,.int .i64 hi] e)) (From w.heap.size (w.alloc (.cells #[.int .i64 lo,.int .i64 hi] e))) [(lo,hi)] (.slice (some ⟨w.heap.size,0,none⟩) 1 1) :=
 (OwnG.lit (E:=Enc.rng) w (base:=w.heap.size) (lo:=w.heap.size) (e:=e) [(lo,hi)] #[.int .i64 lo,.int .i64 hi] (Nat.le_refl _) (by unfold maxLen;simp) rfl (jb9.one rfl)).sl (Nat.le_refl _)
theorem ye6 (b:BookD) (t:TabD) (v vt:Value) (w:World) (h:jar w (Old w) b v) (ht:ja9 w (Old w) t vt) (hs:jgd b) (hl:t.ins.length≤3) :
  Calls Tryz.prog 53 #[v,vt] w (jcj (boxV b t).1 (boxV b t).2 w):=by
 have HS:=hid hs;have HB:=hid h;clear hs;have HNO:Hid (∀ w',je0 b t.ins=false→Below w.heap.size w w'→jcj (boxV b t).1 (boxV b t).2 w (.returned (.tuple #[.slice none 0 0,.bool false])) w'):=fun w' h1 h2=>BoxPost.no h1 h2;have HYES:Hid (∀ w' v,je0 b t.ins=true→Sl Enc.rng.slice w' (From w.heap.size w') (boxL b t.ins) v→Below w.heap.size w w'→jcj (boxV b t).1 (boxV b t).2 w (.returned (.tuple #[v,.bool true])) w'):=fun w' v h1 h2 h3=>BoxPost.yes h1 h2 h3;generalize boxV b t=R at *;obtain ⟨nm,pol,comp,ins,rules⟩:=t;obtain ⟨vd,vtb,rfl,h1,h2⟩:=h;obtain ⟨vi,vr,rfl,hi,hr⟩:=ht;simp only at hi hr hl HNO HYES;have HI:=hid hi;obtain ⟨A,c,rfl,hc1,hc2,-⟩:=h1;obtain ⟨B,d,rfl,hd1,hd2,-⟩:=h2;obtain ⟨Ai,ci,rfl,hi1,hi2,-⟩:=hi;obtain ⟨Ar,cr,rfl,hr1,hr2,-⟩:=hr;unfold maxLen at hc2 hd2 hi2;have hb0:=jaa w (.cells #[.slice A b.doms.length c,.slice B b.tabs.length d] 38);have C0:=hid (Cs.new w [.slice A b.doms.length c,.slice B b.tabs.length d] 38);have hz0:(w.alloc (.cells #[.slice A b.doms.length c,.slice B b.tabs.length d] 38)).heap.size=w.heap.size+1:=by simp
 change Hid (Cs (w.alloc (.cells #[.slice A b.doms.length c,.slice B b.tabs.length d] 38)) _ _) at C0;generalize hw0:w.alloc (.cells #[.slice A b.doms.length c,.slice B b.tabs.length d] 38)=w0 at *;have hb1:=jaa w0 (.cells #[.string nm,.int .i64 pol,.bool comp,.slice Ai ins.length ci,.slice Ar rules.length cr] 56);have C1:=hid (Cs.new w0 [.string nm,.int .i64 pol,.bool comp,.slice Ai ins.length ci,.slice Ar rules.length cr] 56);change Hid (Cs (w0.alloc (.cells #[.string nm,.int .i64 pol,.bool comp,.slice Ai ins.length ci,.slice Ar rules.length cr] 56)) _ _) at C1;rw [hz0] at C1;have C01:=hid (C0.out.next hb1);have hb01:=bx hb0 hb1;generalize hw1:w0.alloc (.cells #[.string nm,.int .i64 pol,.bool comp,.slice Ai ins.length ci,.slice Ar rules.length cr] 56)=w1 at *;have k3:=C1.out.at 3 rfl;go_enter Tryz.func53,Tryz.ntmps53
 go_wp2;go_loopw [6,14] (fun u i wr=>∃ k:Nat,k≤ins.length∧i = .int .i64 k∧Hid (OwnG Enc.rng.slice wr w1.heap.size w1.heap.size 83 u (boxL b (ins.take k)))∧Hid (je0 b (ins.take k)=true)∧Hid (Cs wr w.heap.size [.slice A b.doms.length c,.slice B b.tabs.length d])∧Below w1.heap.size w1 wr) (fun _ i _=>ins.length-(intOf i).toNat)
 case atStart=>exact ⟨0,Nat.zero_le _,rfl,OwnG.nil,rfl,C01,Below.refl _ _⟩
 case round =>
  clear hw0 hw1 k3 hb0 hb1;obtain ⟨k,hk,rfl,HO,HK,CB,hbl⟩:=hrel;have hb:=bx hb01 hbl;have hsz1:=hbl.size;by_cases hlt:k<ins.length
  ·obtain ⟨bb,o,x,rfl,_,hx,c1⟩:=(HI.out.onOld hb).str_at hlt;have HBk:=hid (HB.out.onOld hb);have kB0:=CB.out.at 0 rfl;have kB1:=CB.out.at 1 rfl;have HRE:=hid (yml b x);go_wp2_with fail
   refine (ynt b x _ _ HBk.out HS.out).mono ?_;rintro e w2 ⟨rfl,hb2⟩;have hb12:=bx hbl hb2;have hb02:=bx hb hb2;cases ha:allO b x with
   | none =>
    have HN:Hid (je0 b ins=false):=jse hx.out (by rw [HRE.out,ha]);simp only [Option.getD_none,Option.isSome_none];have hbz:=jaa w2 (.cells #[.int .i64 0,.int .i64 0] 87);clear ha HRE;go_wp2;go_ret2;exact HNO.out _ HN.out (bx hb02 hbz)
   | some r =>
    obtain ⟨lo,hi⟩:=r;have HRE2:Hid (rngO b x=if inBd lo && inBd hi then some (lo,hi) else none):=by show _=_;rw [HRE.out,ha]
    simp only [Option.getD_some,Option.isSome_some];clear ha HRE;have hbz:=jaa w2 (.cells #[.int .i64 lo,.int .i64 hi] 87);have CN:=hid (Cs.new w2 [.int .i64 lo,.int .i64 hi] 87);change Hid (Cs (w2.alloc (.cells #[.int .i64 lo,.int .i64 hi] 87)) _ _) at CN;have CBz:=hid ((CB.out.next hb2).next hbz);have HOz:=hid ((HO.out.next hb2).next hbz);have hb1z:=bx hb12 hbz;have hb0z:=bx hb02 hbz;have q0:=CN.out.at 0 rfl;have q1:=CN.out.at 1 rfl;go_wp2_with fail
    generalize hwa:w2.alloc (.cells #[.int .i64 lo,.int .i64 hi] 87)=wa at *;clear hwa hbz;refine (jsd lo _).mono ?_;rintro e w3 ⟨rfl,hb3⟩;have CN3:=hid (CN.out.next hb3);have r0:=CN3.out.at 0 rfl;have r1:=CN3.out.at 1 rfl;have hb13:=bx hb1z hb3;have hb03:=bx hb0z hb3;clear q0 q1;cases h3:inBd lo
    ·have HN:Hid (je0 b ins=false):=jse hx.out (by rw [HRE2.out,h3];rfl);clear h3;go_wp2;go_ret2;exact HNO.out _ HN.out hb03
    ·have HRE3:Hid (rngO b x=if inBd hi then some (lo,hi) else none):=by show _=_;rw [HRE2.out,h3];rfl
     clear h3 HRE2;go_wp2_with fail
     refine (jsd hi _).mono ?_;rintro e w4 ⟨rfl,hb4⟩;have CN4:=hid (CN3.out.next hb4);have s0:=CN4.out.at 0 rfl;have s1:=CN4.out.at 1 rfl;have hb14:=bx hb13 hb4;have hb04:=bx hb03 hb4;clear r0 r1;cases h4:inBd hi
     ·have HN:Hid (je0 b ins=false):=jse hx.out (by rw [HRE3.out,h4];rfl);clear h4;go_wp2;go_ret2;exact HNO.out _ HN.out hb04
     ·have HM:=hid (jyd (r:=(lo,hi)) hx.out HK.out (by rw [HRE3.out,h4];rfl));clear h4 HRE3;have CB4:=hid ((CBz.out.next hb3).next hb4);have HO4:=hid ((HOz.out.next hb3).next hb4);have h5:=jaa w4 (.cells #[.int .i64 lo,.int .i64 hi] 87);have S5:=hid (yd6 w4 lo hi 87);have hz5:(w4.alloc (.cells #[.int .i64 lo,.int .i64 hi] 87)).heap.size=w4.heap.size+1:=by simp
      have h6:=jaa (w4.alloc (.cells #[.int .i64 lo,.int .i64 hi] 87)) (.cells #[.slice (some ⟨w4.heap.size,0,none⟩) 1 1] 83);have h46:=bx h5 h6;have HO6:=hid ((HO4.out.next h5).next h6);have CB6:=hid (CB4.out.next h46);have hb16:=bx hb14 h46;have HY:Hid (Enc.rng.slice.rd ((w4.alloc (.cells #[.int .i64 lo,.int .i64 hi] 87)).alloc (.cells #[.slice (some ⟨w4.heap.size,0,none⟩) 1 1] 83)) (Off w1.heap.size ((w4.alloc (.cells #[.int .i64 lo,.int .i64 hi] 87)).alloc (.cells #[.slice (some ⟨w4.heap.size,0,none⟩) 1 1] 83)) u6) [(lo,hi)] [.slice (some ⟨w4.heap.size,0,none⟩) 1 1]) :=
       ⟨_,rfl,(S5.out.on h6).more (jet HO4.out hb14.size (Nat.le_refl _))⟩
      have hk3:(boxL b (ins.take k)).length≤3:=by
       unfold boxL;rw [List.length_map,List.length_take];omega
      have hsz16:=hb16.size;have hcell:=cell_one_new (w4.alloc (.cells #[.int .i64 lo,.int .i64 hi] 87)) (.slice (some ⟨w4.heap.size,0,none⟩) 1 1) 83;rw [hz5] at hcell;have HC:=hid hcell;clear hcell;go_wp2_with (at_builtin;refine jaf (E:=Enc.rng.slice) _ rfl _ _ 104 rfl w1.heap.size w1.heap.size 83 24 (.slice none 0 0) jgi jki rfl (by decide) _ _ rfl HO6.out ⟨w4.heap.size+1,0,none⟩ [(lo,hi)] [.slice (some ⟨w4.heap.size,0,none⟩) 1 1] rfl HY.out HC.out (by omega) (by unfold maxLen;omega) hsz16 ?_;intro v' w7 hown' hgrow7 hmv7)
      refine ⟨⟨k+1,by omega,by go_num,?_,HM.out.1,CB6.out.keep (hgrow7.block _ CB6.out.1 (fun e=>by have:=(HO6.out.lt _ e.symm).1;have:=C1.out.1;omega)) hgrow7.size,hb16.grown hgrow7 hsz16 (fun _ hr=>(HO6.out.lt _ hr).1)⟩,by simp [intOf];omega⟩
      show OwnG _ _ _ _ _ _ _
      rw [HM.out.2];exact hown'
  ·have e:ins.take k=ins:=List.take_of_length_le (by omega);rw [e] at HO HK;go_wp2;go_ret2;exact HYES.out _ _ HK.out ((HO.out.sl (Nat.le_refl _)).more (fun k hk=>⟨Nat.le_trans hb01.size hk.1,hk.2⟩)) hb
end Go.Proofs.YthmlndmlnlfhnaaGreatDoor
