package tests

// maxInt and minInt are the greatest and the least int: sums of bounds with them overflow.
const maxInt = 1<<63 - 1
const minInt = -1 << 63

// sameNumbers reports whether two lists have the same numbers in the same order.
func sameNumbers(a []int, b []int) bool {
	if len(a) != len(b) {
		return false
	}
	for i := range a {
		if a[i] != b[i] {
			return false
		}
	}
	return true
}

// hasNumber reports whether a list has a number.
func hasNumber(list []int, number int) bool {
	for _, n := range list {
		if n == number {
			return true
		}
	}
	return false
}

// withoutNumber returns a list without a number.
func withoutNumber(list []int, number int) []int {
	var out []int
	for _, n := range list {
		if n != number {
			out = append(out, n)
		}
	}
	return out
}

// ascends reports whether each number of a list is greater than the one before.
func ascends(list []int) bool {
	for i := 1; i < len(list); i++ {
		if list[i] <= list[i-1] {
			return false
		}
	}
	return true
}
