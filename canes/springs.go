package canes

// back is by how much a bend springs back: by no less of a greater bend, or a greater spring.
func back(bend, spring int) int { return bend * spring / 1000 }

// gain is by how much a bend makes the angle greater: by no less of a greater
// bend, by no more with a greater spring, and by at least 1 with any one.
func gain(bend, spring int) int { return bend - back(bend, spring) }

// angle is the angle after bends in a truth.
func angle(spring int, bends ...int) int {
	sum := 0
	for _, bend := range bends {
		sum += gain(bend, spring)
	}
	return sum
}
