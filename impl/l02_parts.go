package impl

const (
	MaxParts = 16
	MaxLen   = 100
)

type Part struct {
	Addr int64
	From int64
	Len  int64
}

func PartsOk(l []Part) bool {
	if len(l) > MaxParts {
		return false
	}
	left := int64(MaxLen)
	for i, p := range l {
		if !partOk(p) || p.Len > left {
			return false
		}
		if i > 0 && goesOn(l[i-1], p) {
			return false
		}
		left -= p.Len
	}
	return true
}

func LenOf(l []Part) int64 {
	if !PartsOk(l) {
		return -1
	}
	size := int64(0)
	for _, p := range l {
		size += p.Len
	}
	return size
}

func Slice(l []Part, from int64, to int64) ([]Part, bool) {
	if !PartsOk(l) {
		return nil, false
	}
	size := LenOf(l)
	if from < 0 || from > size || to < from || to > size {
		return nil, false
	}
	var r row
	r.addSlice(l, from, to)
	return r.told()
}

func Joined(a []Part, b []Part) ([]Part, bool) {
	if !PartsOk(a) || !PartsOk(b) {
		return nil, false
	}
	var r row
	r.addAll(a)
	r.addAll(b)
	return r.told()
}

func Laid(l []Part, at int64, piece []Part) ([]Part, bool) {
	if !PartsOk(l) || at < 0 || at > MaxLen || !PartsOk(piece) {
		return nil, false
	}
	size := LenOf(l)
	var r row
	r.addSlice(l, 0, min(at, size))
	if at > size {
		r.add(Part{Len: at - size})
	}
	r.addAll(piece)
	r.addSlice(l, min(at+LenOf(piece), size), size)
	return r.told()
}

func Content(l []Part, e []Extent) (string, bool) {
	if !PartsOk(l) || !SpaceOk(MaxSize, e) {
		return "", false
	}
	var text []byte
	for _, p := range l {
		if p.Addr == 0 {
			text = append(text, make([]byte, p.Len)...)
			continue
		}
		data := dataAt(e, p.Addr)
		if int64(len(data)) < p.From+p.Len {
			return "", false
		}
		text = append(text, data[p.From:p.From+p.Len]...)
	}
	return string(text), true
}

func partOk(p Part) bool {
	if p.Addr == 0 {
		return p.From == 0 && p.Len >= 1
	}
	if p.Addr < 1 || p.Addr > MaxSize || p.From < 0 || p.From >= MaxData {
		return false
	}
	return p.Len >= 1 && p.Len <= MaxData-p.From
}

// goesOn asks for parts that are each right by themselves, so that From and Len together can't wrap.
func goesOn(ahead Part, p Part) bool {
	if p.Addr != ahead.Addr {
		return false
	}
	return p.Addr == 0 || p.From == ahead.From+ahead.Len
}

// dataAt is "" where no extent has that Addr, which is fewer bytes than any part wants.
func dataAt(e []Extent, addr int64) string {
	for _, x := range e {
		if x.Addr == addr {
			return x.Data
		}
	}
	return ""
}

// row is a list of parts in the making. What is added behind can't make it right again, so one flag keeps that it grew too great.
type row struct {
	parts [MaxParts]Part
	count int
	size  int64
	over  bool
}

func (r *row) add(p Part) {
	r.size += p.Len
	switch {
	case r.size > MaxLen:
		r.over = true
	case r.count > 0 && goesOn(r.parts[r.count-1], p):
		r.parts[r.count-1].Len += p.Len
	case r.count < MaxParts:
		r.parts[r.count] = p
		r.count++
	default:
		r.over = true
	}
}

func (r *row) addAll(l []Part) {
	for _, p := range l {
		r.add(p)
	}
}

// addSlice adds what makes up the bytes from .. to - 1 of l.
func (r *row) addSlice(l []Part, from int64, to int64) {
	start := int64(0)
	for _, p := range l {
		first := max(from-start, 0)
		end := min(to-start, p.Len)
		if first < end {
			r.add(within(p, first, end))
		}
		start += p.Len
	}
}

// within is what makes up the bytes first .. end - 1 of p.
func within(p Part, first int64, end int64) Part {
	if p.Addr == 0 {
		return Part{Len: end - first}
	}
	return Part{Addr: p.Addr, From: p.From + first, Len: end - first}
}

func (r *row) told() ([]Part, bool) {
	if r.over {
		return nil, false
	}
	return append([]Part(nil), r.parts[:r.count]...), true
}
