package impl

// MaxConn is the number of connections.
const MaxConn = 6

// MaxOwner is the number of owners.
const MaxOwner = 5

// MaxClock is the largest time.
const MaxClock = 1000

// MaxLeases is the largest number of leases.
const MaxLeases = 12

// Lease is that somebody has a connection for some time.
type Lease struct {
	Conn  int
	Owner int
	From  int
	Until int
}

// ValidLeases reports whether leases are valid.
func ValidLeases(list []Lease) bool {
	if len(list) > MaxLeases {
		return false
	}
	for i, x := range list {
		if !validLease(x) || !isFree(list[:i], x.Conn, x.From, x.Until) {
			return false
		}
	}
	return true
}

// OwnerAt returns who has a connection at a time.
func OwnerAt(list []Lease, conn int, now int) int {
	if !ValidLeases(list) {
		return -1
	}
	for _, x := range list {
		if x.Conn == conn && x.From <= now && now < x.Until {
			return x.Owner
		}
	}
	return -1
}

// AddLease returns leases with a further one.
func AddLease(list []Lease, x Lease) ([]Lease, bool) {
	// A longer list is refused before it is copied.
	if !ValidLeases(list) {
		return nil, false
	}
	out := append(copyLeases(list), x)
	if !ValidLeases(out) {
		return nil, false
	}
	return out, true
}

// BusyAt returns the connections that are leased at a time.
func BusyAt(list []Lease, now int) []int {
	var busy []int
	for conn := 0; conn < MaxConn; conn++ {
		if OwnerAt(list, conn, now) != -1 {
			busy = append(busy, conn)
		}
	}
	return busy
}

// FreeFor returns a connection that is free for some time.
func FreeFor(list []Lease, many int, from int, until int) int {
	if !ValidLeases(list) || many < 1 || many > MaxConn || !validTimes(from, until) {
		return -1
	}
	for conn := 0; conn < many; conn++ {
		if isFree(list, conn, from, until) {
			return conn
		}
	}
	return -1
}

// LeasedTime returns how long an owner has connections.
func LeasedTime(list []Lease, owner int) int {
	if !ValidLeases(list) {
		return -1
	}
	sum := 0
	for _, x := range list {
		if x.Owner == owner {
			sum += x.Until - x.From
		}
	}
	return sum
}

// copyLeases returns a copy of leases.
func copyLeases(list []Lease) []Lease {
	var out []Lease
	for _, x := range list {
		out = append(out, x)
	}
	return out
}

// validLease reports whether a lease is valid by itself.
func validLease(x Lease) bool {
	if x.Conn < 0 || x.Conn >= MaxConn || x.Owner < 0 || x.Owner >= MaxOwner {
		return false
	}
	return validTimes(x.From, x.Until)
}

// validTimes reports whether a lease can be from a time until another one.
func validTimes(from int, until int) bool {
	return from >= 0 && from < until && until <= MaxClock
}

// isFree reports whether no lease has a connection from a time on, less than another one.
func isFree(list []Lease, conn int, from int, until int) bool {
	for _, x := range list {
		// Leases that only touch have no time in common: Until is not a time of a lease.
		if x.Conn == conn && x.From < until && from < x.Until {
			return false
		}
	}
	return true
}
