package impl

const (
	MaxSize    = 400
	MaxExtents = 60
	MaxData    = 20
)

type Extent struct {
	Addr int64
	Data string
}

func SpaceOk(size int64, l []Extent) bool {
	if size < 1 || size > MaxSize || len(l) > MaxExtents {
		return false
	}
	next := int64(1)
	for _, e := range l {
		// Addr is held against what size leaves, as Addr and the length together might wrap.
		if !dataOk(e.Data) || e.Addr < next || e.Addr > size+1-int64(len(e.Data)) {
			return false
		}
		next = e.Addr + int64(len(e.Data))
	}
	return true
}

func RoomOf(size int64, l []Extent) int64 {
	if !SpaceOk(size, l) {
		return -1
	}
	room := int64(0)
	for _, n := range gaps(size, l) {
		room += n
	}
	return room
}

func GapsOf(size int64, l []Extent) []int64 {
	if !SpaceOk(size, l) {
		return nil
	}
	var all []int64
	for _, n := range gaps(size, l) {
		all = append(all, n)
	}
	return all
}

func Placed(size int64, l []Extent, data string) ([]Extent, int64, bool) {
	if !SpaceOk(size, l) || !dataOk(data) || len(l) == MaxExtents {
		return nil, 0, false
	}
	for first, n := range gaps(size, l) {
		if n >= int64(len(data)) {
			return withExtent(l, Extent{Addr: first, Data: data}), first, true
		}
	}
	return nil, 0, false
}

func Lifted(size int64, l []Extent, addr int64) ([]Extent, bool) {
	if !SpaceOk(size, l) {
		return nil, false
	}
	var rest []Extent
	for _, e := range l {
		if e.Addr != addr {
			rest = append(rest, e)
		}
	}
	if len(rest) == len(l) {
		return nil, false
	}
	return rest, true
}

func dataOk(data string) bool {
	if len(data) < 1 || len(data) > MaxData {
		return false
	}
	for i := range len(data) {
		if data[i] < 32 || data[i] > 126 {
			return false
		}
	}
	return true
}

// gaps tells of each gap of a right space, in order, its first byte and how many bytes it has.
func gaps(size int64, l []Extent) func(yield func(int64, int64) bool) {
	return func(yield func(int64, int64) bool) {
		next := int64(1)
		for _, e := range l {
			if e.Addr > next && !yield(next, e.Addr-next) {
				return
			}
			next = e.Addr + int64(len(e.Data))
		}
		if next <= size {
			yield(next, size+1-next)
		}
	}
}

// withExtent is l with one more, which lies in a gap, at its place by Addr.
func withExtent(l []Extent, more Extent) []Extent {
	var all []Extent
	at := 0
	for at < len(l) && l[at].Addr < more.Addr {
		at++
	}
	all = append(all, l[:at]...)
	all = append(all, more)
	return append(all, l[at:]...)
}
