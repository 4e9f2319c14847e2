package impl

// Codes of all layers, see chapter 1.
const (
	OK          = 0
	ErrPerm     = 1
	ErrNoEnt    = 2
	ErrAccess   = 3
	ErrExist    = 4
	ErrNotDir   = 5
	ErrIsDir    = 6
	ErrInval    = 7
	ErrFbig     = 8
	ErrNoSpace  = 9
	ErrRofs     = 10
	ErrMlink    = 11
	ErrNameLong = 12
	ErrNotEmpty = 13
	ErrLoop     = 14
	ErrQuota    = 15
	ErrInodes   = 16
	ErrSnaps    = 17
	ErrBusy     = 18
	ErrRange    = 19
	ErrPower    = 20
	ErrCorrupt  = 21
	ErrKind     = 22
	ErrLarge    = 23
	ErrStale    = 24
	ErrWord     = 25
	ErrArgs     = 26
	ErrNumber   = 27
	ErrHex      = 28
)

// Limits of the device, see chapter 1.
const (
	BlockSize  = 512
	SectorSize = 128
	MinBlocks  = 64
	MaxBlocks  = 2048
	MaxDiskOps = 4000
)

// Kinds of operations, see chapter 2.
const (
	DiskRead    = 1
	DiskWrite   = 2
	DiskBarrier = 3
	DiskFuse    = 4
	DiskCrash   = 5
)

// DiskOp is one operation on a device.
type DiskOp struct {
	Kind, A int
	Data    []byte
}

// DiskAns is the answer to one operation.
type DiskAns struct {
	Code int
	Data []byte
}

// DiskOut is what operations on a device leave.
type DiskOut struct {
	Code        int
	Answers     []DiskAns
	Image, Seen []byte
	Cached      int
}

// sectorsPerBlock is how many sector writes one block takes.
const sectorsPerBlock = BlockSize / SectorSize

// noFuse stands for any number of sector writes.
const noFuse = -1

// sector is what the device writes at one go.
type sector [SectorSize]byte

// sectorWrite is a sector that waits in the cache.
type sectorWrite struct {
	at   int
	data sector
}

// powerFailure is thrown by the write that finds no fuse left, so that
// whoever writes many blocks need not ask behind each of them.
type powerFailure struct{}

// device keeps two images: what a crash can't take away any more, and what is
// read, so that reading needs no walk through the cache.
type device struct {
	safe, seen []sector
	cache      []sectorWrite
	fuse       int
	off        bool
}

func rightInSize(image []byte) bool {
	blocks := len(image) / BlockSize
	return len(image)%BlockSize == 0 && blocks >= MinBlocks && blocks <= MaxBlocks
}

func newDevice(image []byte) *device {
	return &device{safe: sectorsOf(image), seen: sectorsOf(image), fuse: noFuse}
}

func sectorsOf(image []byte) []sector {
	list := make([]sector, len(image)/SectorSize)
	for i := range list {
		copy(list[i][:], image[i*SectorSize:])
	}
	return list
}

func bytesOf(list []sector) []byte {
	out := make([]byte, 0, len(list)*SectorSize)
	for _, s := range list {
		out = append(out, s[:]...)
	}
	return out
}

func (d *device) hasBlock(block int) bool {
	return block >= 0 && block < len(d.safe)/sectorsPerBlock
}

func (d *device) read(block int) []byte {
	first := block * sectorsPerBlock
	return bytesOf(d.seen[first : first+sectorsPerBlock])
}

func (d *device) write(block int, data []byte) {
	first := block * sectorsPerBlock
	for i, s := range sectorsOf(data) {
		d.cacheSector(sectorWrite{at: first + i, data: s})
	}
}

func (d *device) cacheSector(w sectorWrite) {
	if d.fuse == 0 {
		d.off = true
		panic(powerFailure{})
	}
	if d.fuse > 0 {
		d.fuse--
	}
	d.cache = append(d.cache, w)
	d.seen[w.at] = w.data
}

// settle makes those cached writes that survive safe and loses the others.
func (d *device) settle(survives func(i int) bool) {
	for i, w := range d.cache {
		if survives(i) {
			d.safe[w.at] = w.data
		}
	}
	for _, w := range d.cache {
		if d.seen[w.at] != d.safe[w.at] {
			d.seen[w.at] = d.safe[w.at]
		}
	}
	d.cache = nil
}

func (d *device) barrier() {
	d.settle(func(int) bool { return true })
}

func (d *device) crash(choice []byte) {
	d.settle(survivorsOf(choice))
	d.fuse = noFuse
	d.off = false
}

func survivorsOf(choice []byte) func(i int) bool {
	return func(i int) bool {
		return i/8 < len(choice) && choice[i/8]>>(i%8)&1 == 1
	}
}

// powerFailed says whether what a recover told is the power's failing. Whatever else
// was thrown goes on.
func powerFailed(thrown any) bool {
	if thrown == nil {
		return false
	}
	if _, failed := thrown.(powerFailure); !failed {
		panic(thrown)
	}
	return true
}

// carryOut does one operation; a power failure inside of it ends here.
func (d *device) carryOut(op DiskOp) (ans DiskAns) {
	defer func() {
		if powerFailed(recover()) {
			ans = DiskAns{Code: ErrPower}
		}
	}()
	if d.off && op.Kind != DiskFuse && op.Kind != DiskCrash {
		return DiskAns{Code: ErrPower}
	}
	switch op.Kind {
	case DiskRead:
		return d.carryOutRead(op)
	case DiskWrite:
		return d.carryOutWrite(op)
	case DiskBarrier:
		d.barrier()
	case DiskFuse:
		d.fuse = op.A
	case DiskCrash:
		d.crash(op.Data)
	default:
		return DiskAns{Code: ErrKind}
	}
	return DiskAns{}
}

func (d *device) carryOutRead(op DiskOp) DiskAns {
	if !d.hasBlock(op.A) {
		return DiskAns{Code: ErrRange}
	}
	return DiskAns{Data: d.read(op.A)}
}

func (d *device) carryOutWrite(op DiskOp) DiskAns {
	if !d.hasBlock(op.A) {
		return DiskAns{Code: ErrRange}
	}
	if len(op.Data) != BlockSize {
		return DiskAns{Code: ErrInval}
	}
	d.write(op.A, op.Data)
	return DiskAns{}
}

// DiskRun carries operations out on a device, see chapter 2.
func DiskRun(image []byte, ops []DiskOp) DiskOut {
	if !rightInSize(image) {
		return DiskOut{Code: ErrInval}
	}
	if len(ops) > MaxDiskOps {
		return DiskOut{Code: ErrLarge}
	}
	d := newDevice(image)
	answers := make([]DiskAns, 0, len(ops))
	for _, op := range ops {
		answers = append(answers, d.carryOut(op))
	}
	return DiskOut{
		Answers: answers,
		Image:   bytesOf(d.safe),
		Seen:    bytesOf(d.seen),
		Cached:  len(d.cache),
	}
}
