package stands

// ring is a list of guests each of whom has the umbrella of the next one, and the last one that of the first.
type ring []int

// rings are all rings of a taking. A guest with its own umbrella is a ring by itself.
func rings(taking []int) []ring {
	var list []ring
	seen := make([]bool, len(taking))
	for first := range taking {
		var r ring
		for guest := first; !seen[guest]; guest = taking[guest] {
			seen[guest] = true
			r = append(r, guest)
		}
		if len(r) > 0 {
			list = append(list, r)
		}
	}
	return list
}

// exchanges put a ring right: in each of them the first guest gives one of the others its umbrella.
//
// No fewer do, as an exchange makes at most one ring more, and all is right when there are as many rings as guests.
func (r ring) exchanges() [][]int {
	var list [][]int
	for _, guest := range r[1:] {
		list = append(list, exchange(r[0], guest))
	}
	return list
}

// mirrored are the exchanges of all guests whose places in a ring have the sum at, modulo the length of the ring.
//
// After those with the sum 1 the guest in the place i has the umbrella of the one in the place 2 - i, to whom those with the sum 2 give it.
func (r ring) mirrored(at int) [][]int {
	var list [][]int
	for i, guest := range r {
		for k, other := range r[:i] {
			if (i+k-at)%len(r) == 0 {
				list = append(list, exchange(guest, other))
			}
		}
	}
	return list
}

func exchange(guest, other int) []int { return []int{min(guest, other), max(guest, other)} }
