package tests

import (
	"bytes"
	"fmt"
	"math"
	"math/rand"
	"slices"
	"strings"
	"testing"

	"loop.example/s02533/impl"
)

// While the power is off all but Fuse and Crash is refused, and a Fuse does nothing.
func TestOperationsWhileThePowerIsOff(t *testing.T) {
	m := wellUsed(t, 0, 8192)
	dark := append(eachKind(), impl.Op{Kind: 0}, impl.Op{Kind: 28}, impl.Op{Kind: -1}, impl.Op{Kind: math.MaxInt},
		by(-1, 70000, on(impl.OpCreate, "/x")), by(5, 5, point), on(impl.OpCreate, "/.snapshot", -1))
	ops, codes := []impl.Op{on(impl.OpCreate, "/a"), fuseOf(6), point}, []int{0, 0, impl.ErrPower}
	for _, op := range dark {
		ops, codes = append(ops, op, fuseOf(1000), fuseOf(-1), by(-1, 1<<40, fuseOf(0))), append(codes, impl.ErrPower, 0, 0, 0)
	}
	// No fuse is left of all these: the consistency point behind the crash is done.
	ops, codes = append(ops, crashOf(0, 255), on(impl.OpStat, "/a"), on(impl.OpCreate, "/b"), point, statfs), append(codes, 0, 0, 0, 0, 0)
	out := codesAre(t, "dark", m, ops, codes...)
	f, _, _ := impl.ChooseFsinfo(m.Disk)
	if u := out.Answers[len(ops)-1].Usage; u.Ops != f.Ops+2 || u.Gen != f.Gen+2 {
		t.Errorf("dark: %v", u)
	}
	// The power stays off to the end of the run, and what is cached is lost.
	dead := codesAre(t, "dead", m, []impl.Op{on(impl.OpCreate, "/a"), fuseOf(6), point, fuseOf(-1), point}, 0, 0, impl.ErrPower, 0, impl.ErrPower)
	if !bytes.Equal(dead.Machine.Disk, m.Disk) || len(dead.Machine.Log) != 47 {
		t.Errorf("dead: %s", tellMachine(dead.Machine, m))
	}
}

func TestFuses(t *testing.T) {
	m := made(t, 64, 0, 0)
	// A consistency point of one new file writes twenty sectors; when the file has become
	// another of the same name the directory is as it was, and it writes sixteen.
	for _, n := range []int{0, 1, 3, 4, 11, 12, 15, 16, 19, 20, 21, 35, 36, 1000, math.MaxInt, -1, -2, math.MinInt} {
		first, second := impl.OK, impl.OK
		if n >= 0 && n < 20 {
			first, second = impl.ErrPower, impl.ErrPower
		} else if n >= 0 && n < 36 {
			second = impl.ErrPower
		}
		codesAre(t, fmt.Sprint("a fuse of ", n), m, []impl.Op{on(impl.OpCreate, "/a"), fuseOf(n), point, on(impl.OpStat, "/a")}, 0, 0, first, first)
		ops := []impl.Op{on(impl.OpCreate, "/a"), fuseOf(n), point, on(impl.OpUnlink, "/a"), on(impl.OpCreate, "/a"), point}
		codesAre(t, fmt.Sprint("a fuse of ", n, ", two points"), m, ops, 0, 0, first, first, first, second)
	}
	// A fuse is set anew, and a crash takes it.
	codesAre(t, "set anew", m, []impl.Op{on(impl.OpCreate, "/a"), fuseOf(3), fuseOf(20), point, fuseOf(0), fuseOf(-1), on(impl.OpCreate, "/b"), point}, 0, 0, 0, 0, 0, 0, 0, 0)
	codesAre(t, "crashed", m, []impl.Op{fuseOf(0), crashOf(0), on(impl.OpCreate, "/b"), point}, 0, 0, 0, 0)
	// What needs no sector needs no fuse.
	codesAre(t, "nothing to write", m, []impl.Op{fuseOf(0), on(impl.OpCreate, "/b"), statfs, on(impl.OpList, "/"), {Kind: impl.OpSnapList}, on(impl.OpUnlink, "/x"), point}, 0, 0, 0, 0, 0, impl.ErrNoEnt, impl.ErrPower)
	codesAre(t, "no point", m, []impl.Op{fuseOf(0), point, statfs}, 0, 0, 0)
}

// A crash with A above 0 leaves a fuse of A - 1 for mounting and for what comes behind.
func TestFusesOfCrashes(t *testing.T) {
	for _, log := range []int{0, 8192} {
		m := made(t, 64, 0, log)
		begun := []impl.Op{on(impl.OpCreate, "/a"), fuseOf(18), point}
		for _, choice := range [][]byte{nil, {0}, {1}, {2}, {3}, {255}, {3, 255, 255}, make([]byte, 5000), bytes.Repeat([]byte{255}, 5000)} {
			for _, a := range []int{math.MinInt, -1, 0, 1, 2, 3, 4, 5, 6, 20, 21, 24, 25, 26, 1000, math.MaxInt} {
				code, later := impl.OK, impl.OK
				// Four sectors of block 1 are mended; then a point of /b writes twenty, of which
				// the last four are block 1 again.
				if a > 0 && a < 5 {
					code, later = impl.ErrPower, impl.ErrPower
				} else if a > 0 && a < 25 {
					later = impl.ErrPower
				}
				ops := append(slices.Clone(begun), crashOf(a, choice...), on(impl.OpStat, "/a"), on(impl.OpUnlink, "/a"), on(impl.OpCreate, "/b"), point, crashOf(0), on(impl.OpStat, "/a"))
				out := codesAre(t, fmt.Sprintf("A %d, choice %.8x, log %d", a, choice, log), m, ops, 0, 0, impl.ErrPower, code, code, code, code, later, 0)
				if last := out.Answers[len(ops)-1].Code; log == 0 && (last == impl.OK) != (a > 0 && a < 21) {
					t.Errorf("A %d: /a, code %d", a, last)
				}
			}
		}
	}
}

// A crash while the power is on and nothing is cached: what isn't in the log is lost.
func TestCrashesWhileThePowerIsOn(t *testing.T) {
	for _, choice := range [][]byte{nil, {255}, bytes.Repeat([]byte{85}, 400)} {
		ops := []impl.Op{on(impl.OpCreate, "/a"), point, on(impl.OpCreate, "/b"), crashOf(0, choice...), on(impl.OpStat, "/a"), on(impl.OpStat, "/b"), statfs, crashOf(0, choice...), statfs}
		out := codesAre(t, "no log", made(t, 64, 0, 0), ops, 0, 0, 0, 0, 0, impl.ErrNoEnt, 0, 0, 0)
		if u := out.Answers[6].Usage; u.Ops != 1 || u.Clock != 2 || u.Gen != 2 || u != out.Answers[8].Usage {
			t.Errorf("no log: %v", u)
		}
		out = codesAre(t, "a log", made(t, 64, 0, 8192), ops, 0, 0, 0, 0, 0, 0, 0, 0, 0)
		if u := out.Answers[6].Usage; u.Ops != 2 || u.Clock != 3 || u.Gen != 3 || u != out.Answers[8].Usage {
			t.Errorf("a log: %v", u)
		}
		codesAre(t, "none", made(t, 64, 0, 8192), []impl.Op{crashOf(0, choice...), crashOf(1, choice...), statfs}, 0, 0, 0)
	}
}

// sectorsOf is how many sector writes a run makes, as far as it goes.
func sectorsOf(t *testing.T, m impl.Machine, ops []impl.Op) int {
	t.Helper()
	_, b := plainRun(m, append([]impl.Op{fuseOf(1 << 40)}, ops...))
	return 1<<40 - b.device.fuse
}

// story is a list of operations that write; each is done.
func story() []impl.Op {
	k := newKeeper()
	ops := []impl.Op{on(impl.OpMkdir, "/d", 511), on(impl.OpCreate, "/d/f", 420), writing("/d/f", 0, strings.Repeat("abc", 700)), point, writing("/d/f", 1500, "changed"), two(impl.OpSymlink, "/l", "d/f"),
		{Kind: impl.OpSnapCreate, Path: "one"}, on(impl.OpTruncate, "/l", 600), two(impl.OpRename, "/d/f", "/g"), point, {Kind: impl.OpSnapRestore, Path: "one"}, on(impl.OpChmod, "/d", 0), on(impl.OpUnlink, "/l"),
		{Kind: impl.OpSnapDelete, Path: "one"}, on(impl.OpCreate, "/end", 420), point}
	// A stream for the state that there is, with a Clock that is far ahead, and one that
	// finds operations ahead of it which aren't safe yet.
	next := k.following(ops...).following(writing("/end", 600, "from elsewhere"), on(impl.OpUnlink, "/d/f"), on(impl.OpMkdir, "/late", 0o700)).s
	ops = append(ops, receiving(streamOf(k.following(ops...).s, withClock(next, 90))), on(impl.OpMkdir, "/late/d", 0o700), writing("/end", 0, letters(700)))
	return append(ops, receiving(streamOf(k.following(ops...).s, next)), on(impl.OpCreate, "/late/f", 0o600))
}

// streamOf is the stream between two right states.
func streamOf(a, b impl.State) []byte {
	stream, code := plainDiff(a, b)
	if code != impl.OK {
		panic("the test's own states aren't right")
	}
	return stream
}

// statesOf are the states behind each operation of a story, that ahead of all first; a
// restored one has the snapshot's nodes.
func statesOf(t *testing.T, ops []impl.Op) []impl.State {
	t.Helper()
	s, list, snaps := impl.NewState(), []impl.State{impl.NewState()}, map[string]impl.State{}
	for _, op := range ops {
		switch {
		case op.Kind <= impl.OpChown:
			s = becomes(t, s, op)
		case op.Kind <= impl.OpSnapRestore:
			clock := s.Clock + 1
			if op.Kind == impl.OpSnapRestore {
				s = snaps[op.Path]
			}
			s = copyOf(s)
			s.Clock = clock
			if op.Kind == impl.OpSnapCreate {
				snaps[op.Path] = s
			}
		case op.Kind == impl.OpReceive:
			s = received(s, op.Data)
		}
		list = append(list, s)
	}
	return list
}

func anyOf(s impl.State, states ...impl.State) bool {
	return slices.ContainsFunc(states, func(other impl.State) bool { return sameState(s, other) })
}

// soundMap says whether the map of a volume is what its planes reach, by the auditor's
// word too.
func soundMap(t *testing.T, name string, m impl.Machine) {
	t.Helper()
	spotless(t, name, m.Disk)
	if words, code := impl.MapWords(m.Disk); code != impl.OK || !slices.Equal(words, reachedPlanes(t, name, m.Disk)) || hungTwice(m.Disk) {
		t.Errorf("%s: the map isn't right, code %d", name, code)
	}
	if !bytes.Equal(m.Disk[:512], m.Disk[512:1024]) {
		t.Errorf("%s: the copies differ", name)
	}
}

// Promise 16: with a log no operation that was answered OK is lost, at whichever sector
// write the power fails, and however often it fails in mounting.
func TestNothingIsLostWithALog(t *testing.T) {
	t.Parallel()
	random := rand.New(rand.NewSource(133))
	ops := story()
	states := statesOf(t, ops)
	for _, every := range []int{0, 1, 3} {
		m := made(t, 100, every, 8192)
		codesAre(t, "the whole story", m, ops, slices.Repeat([]int{0}, len(ops))...)
		many := sectorsOf(t, m, ops)
		for k := range many + 2 {
			for round := range 3 {
				name := fmt.Sprint("every ", every, ", ", k, " sector writes, round ", round)
				list := append([]impl.Op{fuseOf(k)}, ops...)
				list = append(list, crashOf(round*random.Intn(30), anyChoice(random)...))
				for range round * 2 {
					list = append(list, crashOf(1+random.Intn(40), anyChoice(random)...))
				}
				list = append(list, crashOf(0, anyChoice(random)...), on(impl.OpList, "/"))
				out := impl.Run(m, list)
				if round == 0 {
					out = codesAre(t, name, m, list)
				}
				done := 0
				for done < len(ops) && out.Answers[1+done].Code == impl.OK {
					done++
				}
				if (done == len(ops)) != (k >= many) || out.Answers[len(list)-2].Code != impl.OK || out.Answers[len(list)-1].Code != impl.OK {
					t.Fatalf("%s: %d operations are done, then %s", name, done, tellAns(out.Answers[len(list)-2]))
				}
				left, code := impl.Recover(out.Machine)
				s, loaded := impl.LoadState(left.Disk)
				if code != impl.OK || loaded != impl.OK || !anyOf(s, states[done], states[min(done+1, len(ops))]) {
					t.Errorf("%s: codes %d and %d, %d done, Clock %d", name, code, loaded, done, s.Clock)
				}
				soundMap(t, name, left)
				if t.Failed() {
					return
				}
			}
		}
	}
}

// Promise 17: without a log the state is that of a consistency point, whole.
func TestWholePointsWithoutALog(t *testing.T) {
	t.Parallel()
	random := rand.New(rand.NewSource(134))
	ops := story()
	states := statesOf(t, ops)
	for _, every := range []int{0, 1, 3} {
		m := made(t, 100, every, 0)
		many := sectorsOf(t, m, ops)
		for k := range many + 2 {
			name := fmt.Sprint("every ", every, ", ", k, " sector writes")
			list := append([]impl.Op{fuseOf(k)}, ops...)
			list = append(list, crashOf(random.Intn(9), anyChoice(random)...), crashOf(0, anyChoice(random)...))
			out := codesAre(t, name, m, list)
			// The last point that was finished, and that which was under way.
			last, next := 0, 0
			for done := range ops {
				isPoint := ops[done].Kind > impl.OpSeek
				if ops[done].Kind <= impl.OpChown && every > 0 {
					isPoint = states[done+1].Clock-states[last].Clock >= every
				}
				if !isPoint {
					continue
				}
				if next = done + 1; out.Answers[1+done].Code != impl.OK {
					break
				}
				last = next
			}
			left, code := impl.Recover(out.Machine)
			s, loaded := impl.LoadState(left.Disk)
			if code != impl.OK || loaded != impl.OK || !anyOf(s, states[last], states[next]) {
				t.Errorf("%s: codes %d and %d, points %d and %d, Clock %d", name, code, loaded, last, next, s.Clock)
			}
			soundMap(t, name, left)
			if t.Failed() {
				return
			}
		}
	}
}

// The power fails at every sector write of mounting itself, again and again, until it has
// what it needs: with a log to be done again, and with the one or the other copy torn.
func TestThePowerFailsInMounting(t *testing.T) {
	t.Parallel()
	random := rand.New(rand.NewSource(135))
	ops := []impl.Op{on(impl.OpMkdir, "/d", 511), on(impl.OpCreate, "/d/f", 420), writing("/d/f", 0, strings.Repeat("abc", 400))}
	m := made(t, 64, 0, 8192)
	want := statesOf(t, ops)[3]
	all := sectorsOf(t, m, append(slices.Clone(ops), point))
	for _, cached := range []int{0, all - 6, all - 2, all} {
		begun := append(slices.Clone(ops), fuseOf(cached), point)
		_, b := plainRun(m, append(slices.Clone(begun), crashOf(0, 1)))
		if b.mended != map[int]int{all - 6: 1, all - 2: 1}[cached] || b.replayed != map[int]int{0: 3, all - 6: 3}[cached] {
			t.Fatalf("%d sectors: mounting mends %d copies and does %d operations again", cached, b.mended, b.replayed)
		}
		for first := 1; first < all+6; first++ {
			for round := range 3 {
				list := append(slices.Clone(begun), crashOf(first, 1))
				for fuse := 1 + random.Intn(8); round > 0 && fuse < all+6; fuse += 1 + random.Intn(12) {
					list = append(list, crashOf(fuse, anyChoice(random)...))
				}
				list = append(list, crashOf(0, anyChoice(random)...), on(impl.OpRead, "/d/f", 0, 4000), statfs)
				name := fmt.Sprint(cached, " sectors, then a fuse of ", first-1, ", round ", round)
				out := codesAre(t, name, m, list)
				n := len(list)
				if out.Answers[n-3].Code != impl.OK || string(out.Answers[n-2].Data) != strings.Repeat("abc", 400) || out.Answers[n-1].Usage.Ops != 3 {
					t.Errorf("%s: %s, %s", name, tellAns(out.Answers[n-3]), tellAns(out.Answers[n-1]))
				}
				if s := stateOf(t, name, out.Machine); !sameState(s, want) {
					t.Errorf("%s: another state", name)
				}
				soundMap(t, name, out.Machine)
			}
			if t.Failed() {
				return
			}
		}
	}
}
