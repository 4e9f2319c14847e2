package tests

import (
	"fmt"
	"math"
	"math/rand"
	"testing"

	"loop.example/s02533/impl"
)

// anyChoice is what may survive a crash.
func anyChoice(random *rand.Rand) []byte {
	choice := make([]byte, []int{0, 1, 2, 4, 40}[random.Intn(5)])
	random.Read(choice)
	if random.Intn(4) == 0 {
		for k := range choice {
			choice[k] = 255
		}
	}
	return choice
}

// anyStream is a stream for a state, or nearly.
func anyStream(random *rand.Rand, s impl.State) []byte {
	from, to := s, later(random, s, 1+random.Intn(5))
	switch random.Intn(8) {
	case 0:
		from = impl.NewState()
	case 1:
		to = remade(random, to)
	case 2:
		to = impl.NewState()
	case 3:
		to = withClock(to, min(to.Clock+random.Intn(100), impl.MaxClock))
	}
	stream, code := plainDiff(from, to)
	if code != impl.OK {
		panic("the test's own states aren't right")
	}
	if random.Intn(10) == 0 {
		stream[random.Intn(len(stream))]++
	}
	return stream
}

// anyMachineOp is an operation of any kind; power says whether it may fail.
func anyMachineOp(random *rand.Rand, s impl.State, power bool) impl.Op {
	op := anyOp(random, s)
	switch k := random.Intn(100); {
	case k < 20:
		data := make([]byte, 1+random.Intn(impl.MaxIo))
		random.Read(data)
		op = impl.Op{Kind: impl.OpCreate, Path: fmt.Sprint("/f", random.Intn(9)), A: 0o666}
		for _, f := range plainList(s, 1, "") {
			if s.Nodes[f.Ino].Kind == impl.KindFile && random.Intn(3) > 0 {
				op = impl.Op{Kind: impl.OpWrite, Path: f.Path, A: random.Intn(20000), Data: data}
			}
		}
	case k < 28:
		op = impl.Op{Kind: impl.OpSnapCreate + random.Intn(4), Path: fmt.Sprint("s", random.Intn(4)), Gid: random.Intn(3)}
	case k < 32:
		op.Path = "/.snapshot" + []string{"", "/", "/s0", "/s1", "/s2" + op.Path, "/s1" + op.Path}[random.Intn(6)]
	case k < 34:
		op.Path2 = "//.snapshot/s1" + op.Path2
	case k < 37:
		op = impl.Op{Kind: impl.OpCp}
	case k < 40:
		op = impl.Op{Kind: impl.OpStatfs, Uid: random.Intn(3)}
	case k < 42:
		op.Uid, op.Gid = []int{-1, 0, 65535, 65536, math.MinInt}[random.Intn(5)], []int{0, 65535, 65536, math.MaxInt}[random.Intn(4)]
	case k < 46 && power:
		op = impl.Op{Kind: impl.OpFuse, A: random.Intn(60) - 2}
	case k < 50 && power:
		op = impl.Op{Kind: impl.OpCrash, A: random.Intn(60) - 20, Data: anyChoice(random), Uid: random.Intn(2) * 70000}
	case k < 53:
		names := []string{"", "", "s0", "s1", "s2", "s3"}
		op = impl.Op{Kind: impl.OpSend, Path: names[random.Intn(6)], Path2: names[random.Intn(6)], Gid: random.Intn(3)}
	case k < 58:
		op = impl.Op{Kind: impl.OpReceive, Data: anyStream(random, s), Gid: random.Intn(3)}
	}
	if !power && (op.Kind == impl.OpFuse || op.Kind == impl.OpCrash) {
		op.Kind = impl.OpList
	}
	return op
}

// anyVolume is a new machine of some size, pace and log.
func anyVolume(t *testing.T, random *rand.Rand) impl.Machine {
	t.Helper()
	blocks := []int{64, 64, 65, 80, 100, 129, 200, 300}[random.Intn(8)]
	return made(t, blocks, []int{0, 0, 1, 2, 5, 40}[random.Intn(6)], []int{0, 8192, 8192, 9000, 65536}[random.Intn(5)])
}

// someRun is a list of operations, each about what is there when it comes.
func someRun(random *rand.Rand, m impl.Machine, many int, power bool) []impl.Op {
	_, b := plainRun(m, nil)
	ops := []impl.Op{}
	for range many {
		op := anyMachineOp(random, b.s, power)
		if b.off && random.Intn(3) == 0 {
			op = impl.Op{Kind: impl.OpCrash, A: random.Intn(60) - 20, Data: anyChoice(random)}
		}
		b.answer(op)
		ops = append(ops, op)
	}
	return ops
}

// Runs, one behind the other, each on the machine of the one before.
func TestRunsAtRandom(t *testing.T) {
	t.Parallel()
	random := rand.New(rand.NewSource(131))
	seen, codes := map[[2]int]int{}, map[int]int{}
	for round := range 75 {
		m := anyVolume(t, random)
		for part := range 3 {
			name := fmt.Sprint("round ", round, ", part ", part)
			ops := someRun(random, m, 70, true)
			out := runs(t, name, m, ops)
			for k, ans := range out.Answers {
				seen[[2]int{ops[k].Kind, ans.Code}]++
				codes[ans.Code]++
			}
			m, _ = recovers(t, name, out.Machine)
			if t.Failed() {
				return
			}
		}
	}
	for kind := 1; kind <= impl.OpCrash; kind++ {
		if seen[[2]int{kind, impl.OK}] < 8 {
			t.Errorf("kind %d was done only %d times", kind, seen[[2]int{kind, impl.OK}])
		}
	}
	for _, code := range []int{impl.ErrPower, impl.ErrNoSpace, impl.ErrRofs, impl.ErrPerm, impl.ErrInval, impl.ErrKind} {
		if codes[code] < 20 {
			t.Errorf("codes %v", codes)
		}
	}
	if seen[[2]int{impl.OpCrash, impl.ErrPower}] < 20 {
		t.Errorf("the power failed in mounting only %d times", seen[[2]int{impl.OpCrash, impl.ErrPower}])
	}
}

// Hurt machines are mounted and used as the rule says, whatever is wrong with them.
func TestRunsOfHurtMachines(t *testing.T) {
	t.Parallel()
	random := rand.New(rand.NewSource(132))
	codes := map[int]int{}
	for round := range 300 {
		m := anyVolume(t, random)
		m = impl.Run(m, someRun(random, m, 25, true)).Machine
		f, _, code := plainChoose(m.Disk)
		if code != impl.OK {
			t.Fatal("the test's own machine has no record")
		}
		if words, code := plainMapWords(m.Disk); code == impl.OK && random.Intn(2) == 0 {
			for range 1 + random.Intn(30) {
				words[2+random.Intn(len(words)-2)] = []int{0, 0, 0, 1, 2, 1 << 31}[random.Intn(6)]
			}
			m.Disk = mapped(m.Disk, f, words)
		}
		switch random.Intn(4) {
		case 0:
			for range 1 + random.Intn(12) {
				hurt(random, m.Disk)
			}
		case 1:
			m.Disk = withRecord(m.Disk, func(f *impl.Fsinfo) {
				f.Gen, f.Ops = impl.MaxClock-random.Intn(3), impl.MaxClock-random.Intn(12)
				f.Clock = max(f.Clock, impl.MaxClock-random.Intn(20))
			})
		case 2:
			m.Log = hurtLog(random, m.Log)
		}
		if len(m.Log) > impl.MaxLog {
			m.Log = m.Log[:impl.MaxLog]
		}
		name := fmt.Sprint("round ", round)
		ops := []impl.Op{}
		if _, b := plainRun(m, nil); !b.off {
			ops = someRun(random, m, 20, true)
		}
		out := runs(t, name, m, ops)
		codes[out.Code]++
		for _, ans := range out.Answers {
			codes[ans.Code]++
		}
		if t.Failed() {
			return
		}
	}
	for code, least := range map[int]int{impl.OK: 500, impl.ErrCorrupt: 15, impl.ErrRange: 50, impl.ErrPower: 100} {
		if codes[code] < least {
			t.Errorf("codes %v", codes)
		}
	}
}
