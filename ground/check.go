package ground

import (
	"glideslope/api"
	"glideslope/common"
)

// checkPoint returns the error of a point of the ground, or OK.
func checkPoint(p api.Point) api.Errno { return common.CheckPoint(p, MaxPlace) }

// checkVector returns the error of a vector, which may be below the ground, or OK.
func checkVector(v api.Vector) api.Errno {
	return common.First(checkPoint(foot(v)), common.Between(v.Z, -MaxPlace, MaxPlace))
}

// checkPlace returns the error of a place, or OK.
func checkPlace(v api.Vector) api.Errno {
	return common.First(checkPoint(foot(v)), common.Between(v.Z, 0, MaxHeight))
}

// checkMarks returns the error of the marks of an approach, or OK.
func checkMarks(l []api.Vector) api.Errno { return common.CheckSome(l, MaxMarks, checkPlace) }

// checkFactor returns the error of the interval of a factor, or OK.
func checkFactor(x api.Interval) api.Errno { return common.CheckInterval(x, 0, Whole) }

// checkLayers returns the error of the layers of a mirror, or OK.
func checkLayers(l []api.Interval) api.Errno { return common.CheckList(l, MaxLayers, checkFactor) }

// checkSource returns the error of a source, or OK.
func checkSource(s Source) api.Errno {
	return common.First(checkPlace(s.At), common.CheckParts(MaxFeed, s.Carrier, s.Sideband))
}

// checkPlate returns the error of a plate, or OK.
func checkPlate(p Plate) api.Errno {
	return common.First(
		checkPoint(p.From),
		checkPoint(p.To),
		common.Failed(p.From == p.To, api.ErrForm),
		common.Between(p.Height, 1, MaxHeight),
		checkFactor(p.Factor),
		common.CheckTurns(p.Turn))
}

// checkPlates returns the error of plates, or OK.
func checkPlates(l []Plate) api.Errno { return common.CheckList(l, MaxPlates, checkPlate) }

// CheckScene returns the first error of a scene, or OK.
func CheckScene(x Scene) api.Errno {
	return common.First(
		common.CheckSome(x.Sources, MaxSources, checkSource),
		checkLayers(x.Layers),
		checkPlates(x.Plates))
}

// CheckFactors returns the first error of factors, or OK.
func CheckFactors(x Scene, factors []int) api.Errno {
	if e := CheckScene(x); e != api.OK {
		return e
	}
	bands := x.bands()
	if len(factors) != len(bands) {
		return api.ErrShape
	}
	for i, band := range bands {
		if common.Between(factors[i], band.Low, band.High) != api.OK {
			return api.ErrBand
		}
	}
	return api.OK
}

// checkBoxes returns the error of the first interval of boxes with one, or OK.
func checkBoxes(boxes [2]Box) api.Errno {
	return common.CheckList(boxes[:], len(boxes), func(b Box) api.Errno {
		return common.First(common.CheckInterval(b.Re, -MaxField, MaxField), common.CheckInterval(b.Im, -MaxField, MaxField))
	})
}

// checkRoom returns ErrMany if a scene has no room for a plate more, or OK.
func (x Scene) checkRoom() api.Errno { return common.Failed(len(x.Plates) >= MaxPlates, api.ErrMany) }

// checkMove returns ErrLarge if a plate cannot be moved to a point, or OK.
func (p Plate) checkMove(to api.Point) api.Errno {
	return common.Failed(checkPoint(p.moved(to).To) != api.OK, api.ErrLarge)
}
