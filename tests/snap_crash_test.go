package tests

import (
	"bytes"
	"fmt"
	"math/rand"
	"slices"
	"testing"

	"loop.example/s02533/impl"
)

// venture is an operation on a snapshot whose consistency point the power fails in: what
// is done ahead of it since the last consistency point, and how many sector writes are of
// a point that comes ahead of its own.
type venture struct {
	name  string
	m     impl.Machine
	ahead []impl.Op
	op    impl.Op
	first int
	// all is how many sector writes there are.
	all int
	// safe is what the last consistency point has, begun what is held ahead of the
	// operation, done what is held behind it.
	safe, begun, done keeper
}

// ventures are one of each kind, without a log, with one and with one that is full.
func ventures(t *testing.T) []venture {
	t.Helper()
	list := []venture{}
	for _, log := range []int{0, 8192, -8192} {
		m, k := album(t, 100, 0, max(log, -log))
		ahead := []impl.Op{writing("/hard", 600, "not yet safe"), on(impl.OpMkdir, "/late", 0o755), on(impl.OpUnlink, "/d/mine")}
		if log < 0 {
			ahead = append(ahead, writing("/hard", 0, letters(4090)), writing("/d/f", 8000, letters(3830)))
		}
		for _, op := range []impl.Op{taking("three"), dropping("one"), dropping("two"), restoring("one"), restoring("two")} {
			v := venture{name: fmt.Sprint("log ", log, ", kind ", op.Kind, " of ", op.Path), m: m, ahead: ahead, op: op, safe: k, begun: k.following(ahead...)}
			v.done = v.begun.behind(op)
			ops := append(slices.Clone(ahead), op)
			codesAre(t, v.name, m, ops, slices.Repeat([]int{0}, len(ops))...)
			v.all = sectorsOf(t, m, ops)
			if log < 0 {
				v.first = sectorsOf(t, m, append(slices.Clone(ahead), point))
			}
			before, own := infoOf(t, v.name, impl.Run(m, ahead).Machine).Gen, infoOf(t, v.name, impl.Run(m, ops).Machine).Gen
			if begun := infoOf(t, v.name, m).Gen; before != begun || own != begun+1+min(1, v.first) {
				t.Fatalf("%s: the test's own log isn't as full as it should be: Gen %d, %d, %d", v.name, begun, before, own)
			}
			list = append(list, v)
		}
	}
	return list
}

// outcome is what must be held behind a crash when just so many sectors were written.
func (v venture) outcome(sectors int) keeper {
	logged := infoLog(v.m) > 0
	switch {
	case !logged && sectors < v.all-4:
		// The record isn't whole in either copy.
		return v.safe
	case logged && sectors < v.first:
		// Its own record isn't in the log yet: that point comes first.
		return v.begun
	}
	return v.done
}

func infoLog(m impl.Machine) int {
	f, _, _ := plainChoose(m.Disk)
	return f.Log
}

// glimpses look into all snapshots that there may be.
func glimpses() []impl.Op {
	list := []impl.Op{snapshots}
	for _, name := range []string{"one", "two", "three"} {
		top := "/.snapshot/" + name
		list = append(list, on(impl.OpList, top), on(impl.OpRead, top+"/d/f", 0, 4096), on(impl.OpStat, top+"/hard"))
	}
	return list
}

// glimpsed asks that the answers to glimpses are what should be told.
func (k keeper) glimpsed(t *testing.T, name string, answers []impl.Ans) {
	t.Helper()
	if answers[0].N != len(k.snaps) {
		t.Errorf("%s: %s, want %d snapshots", name, tellAns(answers[0]), len(k.snaps))
	}
	for n, op := range glimpses()[1:] {
		if want, _ := k.told(op); !sameAns(answers[1+n], want) {
			t.Errorf("%s, %s: %s, want %s", name, op.Path, tellAns(answers[1+n]), tellAns(want))
		}
	}
}

// Promises 18 and 19 behind a crash at every sector write of a snapshot's consistency
// point, whatever survives: all snapshots are whole, and the one in flight is as it was or
// as it is to be.
func TestCrashesInPointsOfSnapshots(t *testing.T) {
	t.Parallel()
	random := rand.New(rand.NewSource(181))
	for _, v := range ventures(t) {
		for sectors := range v.all + 2 {
			for _, choice := range [][]byte{nil, bytes.Repeat([]byte{255}, 40), anyChoice(random)} {
				name := fmt.Sprintf("%s, %d of %d sector writes, choice %.4x", v.name, sectors, v.all, choice)
				ops := append(slices.Clone(v.ahead), fuseOf(sectors), v.op, crashOf(0, choice...))
				n := len(ops)
				ops = append(ops, glimpses()...)
				out := impl.Run(v.m, ops)
				if len(choice) == 0 {
					out = codesAre(t, name, v.m, ops)
				}
				code := impl.ErrPower
				if sectors >= v.all {
					code = impl.OK
				}
				if out.Answers[n-2].Code != code || out.Answers[n-1].Code != impl.OK || code != impl.OK && !sameAns(out.Answers[n-2], impl.Ans{Code: code}) {
					t.Errorf("%s: %s, then %s", name, tellAns(out.Answers[n-2]), tellAns(out.Answers[n-1]))
				}
				held := v.outcome(sectors)
				held.glimpsed(t, name, out.Answers[n:])
				held.mountsAs(t, name, out.Machine)
				if t.Failed() {
					return
				}
			}
		}
	}
}

// The power is off when the run ends: then mounting finds what a crash finds that loses
// all of the cache.
func TestRunsThatEndInPointsOfSnapshots(t *testing.T) {
	t.Parallel()
	for _, v := range ventures(t) {
		for sectors := 0; sectors < v.all+2; sectors += 3 {
			name := fmt.Sprintf("%s, %d of %d sector writes", v.name, sectors, v.all)
			out := codesAre(t, name, v.m, append(slices.Clone(v.ahead), fuseOf(sectors), v.op))
			held := v.outcome(sectors)
			next := held.mountsAs(t, name, out.Machine)
			look := codesAre(t, name, out.Machine, glimpses())
			held.glimpsed(t, name, look.Answers)
			if !sameMachine(look.Machine, next) {
				t.Errorf("%s: looking leaves another machine than mounting: %s", name, tellMachine(look.Machine, next))
			}
		}
	}
}

// The power fails in mounting too, at every sector write of what the log does again, and
// then again and again.
func TestCrashesInMountingOfSnapshots(t *testing.T) {
	t.Parallel()
	random := rand.New(rand.NewSource(182))
	for _, v := range ventures(t) {
		if infoLog(v.m) == 0 {
			continue
		}
		for _, sectors := range []int{v.first, v.first + 1, v.all - 9, v.all - 6, v.all - 3} {
			begun := append(slices.Clone(v.ahead), fuseOf(sectors), v.op)
			for fuse := 1; fuse < v.all-v.first+12; fuse++ {
				ops := append(slices.Clone(begun), crashOf(fuse, anyChoice(random)...))
				for range random.Intn(3) {
					ops = append(ops, crashOf(1+random.Intn(40), anyChoice(random)...))
				}
				ops = append(ops, crashOf(0, anyChoice(random)...))
				n := len(ops)
				name := fmt.Sprintf("%s, %d of %d sector writes, then %d", v.name, sectors, v.all, fuse-1)
				out := codesAre(t, name, v.m, append(ops, glimpses()...))
				if out.Answers[n-1].Code != impl.OK {
					t.Errorf("%s: %s", name, tellAns(out.Answers[n-1]))
				}
				v.done.glimpsed(t, name, out.Answers[n:])
				v.done.mountsAs(t, name, out.Machine)
				if t.Failed() {
					return
				}
			}
		}
	}
}

// What lies behind a snapshot does not reach it: operations, points, crashes, a volume that
// is full, and its own state restored and changed.
func TestWhateverComesBehindASnapshot(t *testing.T) {
	for _, log := range []int{0, 8192} {
		m, k := album(t, 64, 0, log)
		fill := []impl.Op{on(impl.OpCreate, "/full", 0o644)}
		for n := range 9 {
			fill = append(fill, writing("/full", 4096*n, letters(4096)))
		}
		for name, ops := range map[string][]impl.Op{
			"all is taken away":  {on(impl.OpUnlink, "/hard"), on(impl.OpUnlink, "/d/f"), on(impl.OpUnlink, "/d/mine"), on(impl.OpRmdir, "/d"), point},
			"a crash":            {writing("/hard", 0, "lost?"), crashOf(0, 255, 255)},
			"a torn point":       {writing("/hard", 0, letters(3000)), fuseOf(30), point, crashOf(3, 85, 85, 85), crashOf(0, 255)},
			"many points":        {on(impl.OpChmod, "/d", 0), point, on(impl.OpChmod, "/d", 1), point, on(impl.OpChmod, "/d", 2), point, on(impl.OpChmod, "/d", 3), point},
			"a full volume":      append(slices.Clone(fill), point),
			"full and crashed":   append(slices.Clone(fill), crashOf(0, 1, 2, 3, 4)),
			"the other restored": {restoring("two"), writing("/hard", 0, "changed"), point, restoring("one"), on(impl.OpUnlink, "/l"), point},
			"another deleted":    {taking("three"), on(impl.OpCreate, "/x"), dropping("three"), on(impl.OpUnlink, "/x"), taking("three"), dropping("three")},
		} {
			out := codesAre(t, name, m, append(slices.Clone(ops), glimpses()...))
			k.glimpsed(t, name, out.Answers[len(ops):])
			left, code := impl.Recover(out.Machine)
			if code != impl.OK {
				t.Fatalf("%s: code %d", name, code)
			}
			soundMap(t, name, left)
			for snap, want := range k.snaps {
				if s, code := impl.LoadSnap(left.Disk, snap); code != impl.OK || !sameState(s, want) {
					t.Errorf("%s: snapshot %s has changed, code %d", name, snap, code)
				}
			}
		}
	}
}
