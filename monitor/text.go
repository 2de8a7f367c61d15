package monitor

import (
	"strconv"
	"strings"

	"glideslope/api"
	"glideslope/common"
)

const (
	plantWord  = "plant"
	sensorWord = "sensor"
)

// Print returns the string of a plant.
func Print(p Plant) (string, api.Errno) {
	if e := CheckPlant(p); e != api.OK {
		return "", e
	}
	lines := common.Mapped(p.Sensors, Sensor.line)
	return common.NumberLine(plantWord, p.Need, p.Silence) + strings.Join(lines, ""), api.OK
}

// line returns the line of a sensor.
func (x Sensor) line() string {
	numbers := common.Mapped([]int{x.Limits.Low, x.Limits.High, x.Delay}, strconv.Itoa)
	return common.Line(append([]string{sensorWord, x.Name, x.Kind}, numbers...)...)
}

// Parse returns the plant of a string, and the index of the first line that is wrong.
func Parse(s string) (Plant, int, api.Errno) {
	var p Plant
	lines, e := common.ReadLines(s, func(at int, w *common.Words) bool {
		take := w.Next
		if at == 0 {
			return readHead(&p, take)
		}
		return readSensor(&p, take)
	})
	if e := common.First(e, common.Failed(lines == 0, api.ErrSyntax), CheckPlant(p)); e != api.OK {
		return Plant{}, lines, e
	}
	return p, 0, api.OK
}

// readHead reads the line of a plant, and reports whether it is one.
func readHead(p *Plant, take func() string) bool {
	word := take()
	need, isNeed := common.Count(take())
	silence, isSilence := common.Count(take())
	p.Need, p.Silence = need, silence
	return word == plantWord && isNeed && isSilence
}

// readSensor reads the line of a sensor, and reports whether it is one.
func readSensor(p *Plant, take func() string) bool {
	word, name, kind := take(), take(), take()
	limits, are := common.Integers(2, take)
	delay, isDelay := common.Count(take())
	p.Sensors = append(p.Sensors, Sensor{name, kind, api.Interval{Low: limits[0], High: limits[1]}, delay})
	return word == sensorWord && name != "" && kind != "" && are && isDelay
}
