package tests

import (
	"fmt"
	"math/rand"
	"testing"

	"loop.example/s02533/impl"
)

// anySnapOp is an operation that has to do with snapshots or with space, about what a
// machine holds.
func anySnapOp(random *rand.Rand, b *plainBox) impl.Op {
	name := fmt.Sprint("s", random.Intn(5))
	found := append(plainList(b.s, 1, ""), impl.Found{Path: "/", Ino: 1})
	entry := found[random.Intn(len(found))]
	switch k := random.Intn(100); {
	case k < 9:
		return taking(name)
	case k < 15:
		return dropping(name)
	case k < 20:
		return restoring(name)
	case k < 35:
		s, code := plainLoadSnap(b.image(), name)
		if code != impl.OK {
			s = b.s
		}
		op := anyOp(random, s)
		op.Kind = impl.OpRead + random.Intn(6)
		op.Path = "/.snapshot/" + name + op.Path
		return op
	case k < 45:
		op := on(impl.OpUnlink, entry.Path)
		if b.s.Nodes[entry.Ino].Kind == impl.KindDir {
			op.Kind = impl.OpRmdir
		}
		return op
	case k < 52:
		return on(impl.OpTruncate, entry.Path, max(0, len(b.s.Nodes[entry.Ino].Data)-random.Intn(900)+20))
	case k < 57:
		return point
	case k < 75:
		data := make([]byte, 1000+random.Intn(3000))
		random.Read(data)
		op := writing(fmt.Sprint("/big", random.Intn(4)), 4096*random.Intn(6), string(data))
		if _, code := plainWalk(b.s, 0, 0, op.Path, true); code != impl.OK {
			op = on(impl.OpCreate, op.Path, 0o666)
		}
		return op
	}
	op := anyMachineOp(random, b.s, false)
	op.Uid, op.Gid = 0, 0
	return op
}

// mustLeave is how much room an operation that would be done must leave by chapter 13, and
// whether that is asked at all.
func mustLeave(s impl.State, op impl.Op) (int, bool) {
	switch {
	case op.Kind == impl.OpSnapCreate:
		return 13, true
	case op.Kind == impl.OpReceive:
		return 12, true
	case op.Kind < impl.OpMkdir || op.Kind > impl.OpChown:
		return 0, false
	case op.Kind == impl.OpUnlink || op.Kind == impl.OpRmdir:
		return 0, true
	case op.Kind == impl.OpTruncate:
		if number, code := plainWalk(s, op.Uid, op.Gid, op.Path, true); code == impl.OK && op.A <= len(s.Nodes[number].Data) {
			return 0, true
		}
	}
	return 12, true
}

// scarce does an operation on the plain machine and asks for promise 21; behind says that
// a consistency point has just been made. It tells the code.
func scarce(t *testing.T, name string, b *plainBox, op impl.Op, behind bool) int {
	t.Helper()
	before, gen, loose := b.s, b.record.Gen, b.record.Snaps == [31]int{}
	image, next := b.image(), keeper{s: b.s}.behind(op).s
	code := b.answer(op).Code
	least, asked := mustLeave(before, op)
	switch {
	case op.Kind == impl.OpReceive && (code == impl.OK || code == impl.ErrNoSpace):
		// Its own point follows: the room is that ahead of it.
		if room, _ := plainRoom(image, next); (code == impl.OK) != (room >= least) {
			t.Errorf("%s (%s): code %d, but there is room for %d", name, tellOp(op), code, room)
		}
	case code == impl.ErrNoSpace:
		if room, _ := plainRoom(b.image(), next); !asked || room >= least {
			t.Errorf("%s (%s): refused for space, but there is room for %d", name, tellOp(op), room)
		}
		if asked && least == 0 && behind && loose {
			t.Errorf("%s (%s): nothing can be taken away directly behind a point", name, tellOp(op))
		}
	case code == impl.OK && asked && b.s.Clock > before.Clock && b.record.Gen == gen:
		if room, _ := plainRoom(b.image(), b.s); room < least {
			t.Errorf("%s (%s): done, but there is room only for %d", name, tellOp(op), room)
		}
	}
	return code
}

// scarceRun is a list of operations on a machine, each of which keeps promise 21.
func scarceRun(t *testing.T, random *rand.Rand, name string, m impl.Machine, many int) []impl.Op {
	t.Helper()
	_, b := plainRun(m, nil)
	ops, behind := []impl.Op{}, true
	for range many {
		op := anySnapOp(random, b)
		gen := b.record.Gen
		code := scarce(t, name, b, op, behind)
		ops = append(ops, op)
		behind = code == impl.OK && (b.record.Gen > gen || b.ops == b.record.Ops)
	}
	return append(ops, point)
}

// heard asks that the answers are those of what is held, and tells what is held then.
func (k keeper) heard(t *testing.T, name string, ops []impl.Op, answers []impl.Ans, seen map[[2]int]int) keeper {
	t.Helper()
	for n, op := range ops {
		ans := answers[n]
		seen[[2]int{op.Kind, ans.Code}]++
		names, inside := plainSnapshotPath(op.Path)
		if op.Kind >= impl.OpRead && op.Kind <= impl.OpSeek && inside && len(names) > 0 {
			want, there := k.told(op)
			if !sameAns(ans, want) {
				t.Errorf("%s, operation %d (%s): %s, want %s", name, n, tellOp(op), tellAns(ans), tellAns(want))
			}
			if there {
				seen[[2]int{-1, want.Code}]++
			}
		}
		if ans.Code == impl.OK {
			k = k.behind(op)
		}
	}
	return k
}

// Promises 18, 19, 21 and 22: volumes that live with snapshots and little space, whose
// power fails now and then, and that are emptied at the end.
func TestSnapshotsAndSpaceAtRandom(t *testing.T) {
	t.Parallel()
	random := rand.New(rand.NewSource(183))
	seen, inFlight := map[[2]int]int{}, map[string]int{}
	for round := range 60 {
		m := made(t, []int{64, 64, 66, 80, 110, 129}[random.Intn(6)], []int{0, 0, 1, 4}[random.Intn(4)], []int{0, 8192, 8192, 65536}[random.Intn(4)])
		k := newKeeper()
		for part := range 4 {
			name := fmt.Sprint("round ", round, ", part ", part)
			ops := scarceRun(t, random, name, m, 60)
			_, b := plainRun(m, ops)
			last := anySnapOp(random, b)
			all := append(ops, fuseOf(random.Intn(60)), last, crashOf(random.Intn(30), anyChoice(random)...))
			out := runs(t, name, m, all)
			k = k.heard(t, name, ops, out.Answers, seen)
			var code int
			if m, code = impl.Recover(out.Machine); code != impl.OK {
				t.Fatalf("%s: recovers with code %d", name, code)
			}
			// The last operation was in flight, or refused; without a log it may be lost.
			with, without := k.behind(last).wrongIn(m.Disk), k.wrongIn(m.Disk)
			ended := out.Answers[len(ops)+1].Code
			switch {
			case (ended == impl.OK || ended == impl.ErrPower) && with == "":
				k = k.behind(last)
				inFlight["done"]++
			case (ended != impl.OK || infoLog(m) == 0 || last.Kind > impl.OpChown) && without == "":
				inFlight["not done"]++
			default:
				t.Errorf("%s (%s), code %d: with it %s; without it %s", name, tellOp(last), ended, with, without)
			}
			soundMap(t, name, m)
			if t.Failed() {
				return
			}
		}
		emptied(t, fmt.Sprint("round ", round), m, round%2 == 0)
	}
	for kind, least := range map[int]int{impl.OpReceive: 50, impl.OpSnapCreate: 200, impl.OpSnapDelete: 80, impl.OpSnapRestore: 60, impl.OpUnlink: 200, impl.OpTruncate: 100, -1: 150} {
		if seen[[2]int{kind, impl.OK}] < least {
			t.Errorf("kind %d was done only %d times", kind, seen[[2]int{kind, impl.OK}])
		}
	}
	for kind, least := range map[int]int{impl.OpReceive: 10, impl.OpSnapCreate: 25, impl.OpWrite: 200, impl.OpCreate: 50} {
		if seen[[2]int{kind, impl.ErrNoSpace}] < least {
			t.Errorf("kind %d was refused for space only %d times", kind, seen[[2]int{kind, impl.ErrNoSpace}])
		}
	}
	if inFlight["done"] < 20 || inFlight["not done"] < 20 {
		t.Errorf("in flight: %v", inFlight)
	}
}
