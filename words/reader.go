package words

// reader takes the digits of a word's text one by one. It reckons without the sign: the least word has no counterpart above 0.
type reader struct {
	below  bool
	most   uint64
	size   uint64
	digits int
}

// take goes on by a byte; false, and nothing changes, if no word's text goes on so.
func (r *reader) take(c byte) bool {
	if c < '0' || c > '9' {
		return false
	}
	noughtBelow := c == '0' && r.digits == 0 && r.below
	behindNought := r.digits > 0 && r.size == 0
	digit := uint64(c - '0')
	if noughtBelow || behindNought || r.size > (r.most-digit)/10 {
		return false
	}
	r.size = r.size*10 + digit
	r.digits++
	return true
}

// at is the number of the byte that comes next.
func (r *reader) at() int {
	if r.below {
		return r.digits + 1
	}
	return r.digits
}

func (r *reader) word() int64 {
	if r.below {
		return -int64(r.size)
	}
	return int64(r.size)
}
