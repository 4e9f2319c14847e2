package tests

import (
	"fmt"
	"math"
	"math/rand"
	"testing"

	"loop.example/s02533/impl"
)

// life is a volume with the state that is in memory and its snapshots' states.
type life struct {
	image []byte
	s     impl.State
	ops   int
	snaps map[string]impl.State
}

// change does some operations; now and then one that takes many blocks.
func (l *life) change(random *rand.Rand, most int) {
	for range random.Intn(most) {
		op := anyOp(random, l.s)
		op.Uid, op.Gid = 0, 0
		if random.Intn(4) == 0 {
			data := make([]byte, 1+random.Intn(impl.MaxIo))
			random.Read(data)
			found, _ := impl.ListTree(l.s)
			for _, f := range found {
				if l.s.Nodes[f.Ino].Kind == impl.KindFile {
					op = impl.Op{Kind: impl.OpWrite, Path: f.Path, A: random.Intn(len(l.image) / 8), Data: data}
				}
			}
		}
		next, ans := impl.ApplyOp(l.s, op)
		if ans.Code == impl.OK {
			l.s = next
			l.ops++
		}
	}
}

// act is any act, mostly of a name that fits.
func (l *life) act(random *rand.Rand) impl.Act {
	name := fmt.Sprint("s", random.Intn(6))
	return impl.Act{Kind: []int{0, 0, 1, 1, 2, 3}[random.Intn(6)], Name: name}
}

// point makes a consistency point; a restored state is that of the snapshot, or one
// that differs. It tells the code.
func (l *life) point(t *testing.T, random *rand.Rand, name string) int {
	t.Helper()
	act := l.act(random)
	s := l.s
	if old, found := l.snaps[act.Name]; act.Kind == impl.ActRestore && found && random.Intn(3) > 0 {
		s = copyOf(old)
		s.Clock = max(l.s.Clock, s.Clock) + 1
	}
	behind, code := keepsPromise(t, name, l.image, s, l.ops, act)
	if code != impl.OK {
		return code
	}
	l.image, l.s = behind, s
	switch act.Kind {
	case impl.ActCreate:
		l.snaps[act.Name] = copyOf(s)
	case impl.ActDelete:
		delete(l.snaps, act.Name)
	}
	for snap, want := range l.snaps {
		if got, code := impl.LoadSnap(l.image, snap); code != impl.OK || !sameState(got, want) {
			t.Errorf("%s: snapshot %q has changed, code %d", name, snap, code)
		}
	}
	return impl.OK
}

func TestConsistencyPointsAtRandom(t *testing.T) {
	random := rand.New(rand.NewSource(112))
	codes := map[int]int{}
	for round := range 24 {
		n := []int{64, 64, 65, 100, 128, 129, 200, 300, 1536, 1540, 2048}[random.Intn(11)]
		image, _ := impl.Format(n, random.Intn(1001), 0)
		l := &life{image: image, s: impl.NewState(), snaps: map[string]impl.State{}}
		points := 40
		if n > 1000 {
			points = 12
		}
		for point := range points {
			l.change(random, 12)
			code := l.point(t, random, fmt.Sprint("round ", round, ", point ", point, ", ", n, " blocks"))
			codes[code]++
			// Full: begin anew with what the volume has.
			if code == impl.ErrNoSpace && random.Intn(3) == 0 {
				l.s, _ = impl.LoadState(l.image)
			}
			if t.Failed() {
				return
			}
		}
	}
	for _, code := range []int{impl.OK, impl.ErrNoSpace, impl.ErrExist, impl.ErrNoEnt} {
		if codes[code] < 10 {
			t.Errorf("codes %v", codes)
		}
	}
}

// Hurt volumes are planned as the rule says, whatever is wrong with them.
func TestPlansOfHurtVolumes(t *testing.T) {
	t.Parallel()
	random := rand.New(rand.NewSource(113))
	codes := map[int]int{}
	for round := range 1500 {
		n := []int{64, 65, 100, 130, 200, 300, 1600}[random.Intn(7)]
		m := newMason(n)
		p := example()
		p.file(1, "single", fileOf(14))
		root := m.state(p.State)
		m.info.Ino = root
		for plane := 1; plane < 3; plane++ {
			m.snap(plane*7, fmt.Sprint("s", plane), 8+plane, root)
		}
		m.info.Cursor = 2 + random.Intn(min(n-2, 60))
		image := m.done()
		f, _, _ := plainChoose(image)
		words, _ := plainMapWords(image)
		for range random.Intn(4) {
			for range 1 + random.Intn(8) {
				words[2+random.Intn(min(n-2, 50))] = []int{0, 0, 0, 1, 2, 1 << 31, 1 << 7, math.MaxUint32}[random.Intn(8)]
			}
			image = mapped(image, f, words)
		}
		for range random.Intn(2) {
			hurt(random, image)
		}
		s := copyOf(p.State)
		if random.Intn(2) == 0 {
			s.Nodes[3].Data = []byte(someText(random, 600))
		}
		if random.Intn(2) == 0 {
			s.Nodes[7].Data[random.Intn(len(s.Nodes[7].Data))] ^= 1
		}
		if random.Intn(9) == 0 {
			s.Nodes[3].Links = 2
		}
		act := impl.Act{Kind: random.Intn(4), Name: fmt.Sprint("s", random.Intn(4))}
		_, code := plans(t, fmt.Sprint("round ", round), image, s, 2+random.Intn(9), act)
		codes[code]++
		if t.Failed() {
			return
		}
	}
	for code, least := range map[int]int{impl.OK: 300, impl.ErrCorrupt: 150, impl.ErrRange: 50, impl.ErrExist: 50, impl.ErrNoEnt: 50} {
		if codes[code] < least {
			t.Errorf("codes %v", codes)
		}
	}
}

// The greatest states on the greatest volume.
func TestPlansOfGreatStates(t *testing.T) {
	image, _ := impl.Format(2048, 0, 0)
	planRefused(t, "MaxBytes", image, fullState(0).State, 1, impl.Act{}, impl.ErrNoSpace)
	many := manyFiles(999)
	image, code := keepsPromise(t, "999 files", image, many.State, 1, create("all"))
	if code != impl.OK {
		t.Fatalf("999 files: code %d", code)
	}
	many.Nodes[500].Mode, many.Nodes[999].Data = 0, []byte("changed")
	image, code = keepsPromise(t, "two of them", image, many.State, 2, impl.Act{})
	if code != impl.OK {
		t.Fatalf("two of them: code %d", code)
	}
	if image, code = keepsPromise(t, "none", image, impl.NewState(), 3, impl.Act{}); code != impl.OK {
		t.Fatalf("none: code %d", code)
	}
	if _, code = keepsPromise(t, "back", image, manyFiles(999).State, 4, restore("all")); code != impl.OK {
		t.Fatalf("back: code %d", code)
	}
}
