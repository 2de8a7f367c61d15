package aerial

import (
	"slices"

	"glideslope/api"
	"glideslope/common"
)

// CheckNetwork returns the first error of ports and a network, or OK.
func CheckNetwork(ports []complex128, network []Coupler) api.Errno {
	return common.First(
		common.CheckSome(ports, MaxAerials, func(x complex128) api.Errno { return checkNumber(x, MaxFeed) }),
		common.CheckList(network, MaxCouplers, func(c Coupler) api.Errno { return checkCoupler(c, len(ports)) }))
}

// checkCoupler returns the first error of a coupler between some of so many ports, or OK.
func checkCoupler(c Coupler, ports int) api.Errno {
	return common.First(
		common.CheckIndex(c.A, ports),
		common.CheckIndex(c.B, ports),
		common.Failed(c.A == c.B, api.ErrTwice),
		common.Between(c.Through, 0, MaxWhole),
		common.Between(c.Cross, 0, MaxWhole),
		common.Between(c.Whole, 1, MaxWhole),
		checkSquares(c.Through, c.Cross, c.Whole))
}

// led returns ports behind a coupler.
func (c Coupler) led(ports []complex128) []complex128 {
	out := common.Mapped(ports, func(x complex128) complex128 { return scalar(c.Whole) * x })
	a, b := ports[c.A], ports[c.B]
	through, cross := scalar(c.Through), turned(scalar(c.Cross), 1)
	out[c.A] = through*a + cross*b
	out[c.B] = cross*a + through*b
	return out
}

// Led returns the ports behind a network, and its scale.
func Led(ports []complex128, network []Coupler) ([]complex128, int, api.Errno) {
	if e := CheckNetwork(ports, network); e != api.OK {
		return nil, 0, e
	}
	out, scale := slices.Clone(ports), 1
	for _, c := range network {
		out, scale = c.led(out), scale*c.Whole
	}
	return common.Mapped(out, unsigned), scale, api.OK
}
